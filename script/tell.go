package script

import (
	"strings"

	"arrears/api"
	"arrears/money"
)

// tell tells what lies in a slot as a field. Refused is what no field can say.
func tell(o api.Op, s slot) (string, bool) {
	switch s {
	case loanSlot:
		return tellWhole(o.Loan)
	case rateSlot:
		return tellWhole(o.Rate)
	case countSlot:
		return tellWhole(o.Count)
	case daysSlot:
		return tellWhole(o.Days)
	case amountSlot:
		return money.Format(o.Amount), true
	case typeSlot:
		return planWord(o.Days)
	case lettersSlot:
		return o.Text, o.Text != "" && !strings.ContainsAny(o.Text, blank+lineEnd)
	}
	return "", false
}
