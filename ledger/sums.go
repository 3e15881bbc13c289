package ledger

import (
	"math/bits"

	"arrears/api"
)

// wide is a whole number of 128 bits in two's complement: a sum on the way may leave int64 and come back.
type wide struct {
	high, low uint64
}

func (w wide) plus(n int64) wide {
	low, carry := bits.Add64(w.low, uint64(n), 0)
	high, _ := bits.Add64(w.high, uint64(n>>63), carry)
	return wide{high, low}
}

func (w wide) minus(n int64) wide {
	low, borrow := bits.Sub64(w.low, uint64(n), 0)
	high, _ := bits.Sub64(w.high, uint64(n>>63), borrow)
	return wide{high, low}
}

// narrow is the number as an int64, if it fits.
func (w wide) narrow() (int64, bool) {
	n := int64(w.low)
	if w.high != uint64(n>>63) {
		return 0, false
	}
	return n, true
}

// sums are the exact nets of a book in the making, handed about as a value like the book itself.
type sums [api.Accounts]wide

func (s sums) add(b api.Book) sums {
	for account, net := range b.Net {
		s[account] = s[account].plus(net)
	}
	return s
}

func (s sums) move(e api.Entry) sums {
	s[e.Debit] = s[e.Debit].plus(e.Amount)
	s[e.Credit] = s[e.Credit].minus(e.Amount)
	return s
}

// book is the book of these nets, if all of them fit.
func (s sums) book() (api.Book, bool) {
	var b api.Book
	for account, sum := range s {
		net, ok := sum.narrow()
		if !ok {
			return api.Book{}, false
		}
		b.Net[account] = net
	}
	return b, true
}
