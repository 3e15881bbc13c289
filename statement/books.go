package statement

import (
	"arrears/api"
	"arrears/engine"
	"arrears/ledger"
)

// booksOf is the books of all loans added up.
func booksOf(e *engine.Engine) api.Book {
	var b api.Book
	for account, cents := range e.Ask(api.Op{Kind: api.OpBooks}).Nums {
		// A balance is told from the account's own side.
		if !ledger.Debits(account) {
			cents = -cents
		}
		b.Net[account] = cents
	}
	return b
}

// difference is what is to be added to the one book to come to the other. It fits: an account stays on its own side.
func difference(behind, ahead api.Book) api.Book {
	for account, cents := range ahead.Net {
		behind.Net[account] -= cents
	}
	return behind
}
