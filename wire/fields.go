package wire

import "arrears/api"

// The fields that an operation may tell behind its kind, as the members of a set.
const (
	fieldLoan = 1 << iota
	fieldAmount
	fieldRate
	fieldCount
	fieldDays
	fieldText
)

// fieldsOf is the one place that says what a kind uses: telling and reading both ask it, so that they cannot differ.
func fieldsOf(kind int) (int, bool) {
	switch kind {
	case api.OpOpen:
		return fieldLoan | fieldAmount | fieldRate | fieldCount | fieldDays, true
	case api.OpPay:
		return fieldLoan | fieldAmount | fieldCount, true
	case api.OpRefund, api.OpWaive:
		return fieldLoan | fieldAmount, true
	case api.OpReturn, api.OpLoan, api.OpPlan:
		return fieldLoan, true
	case api.OpPromise:
		return fieldLoan | fieldAmount | fieldDays, true
	case api.OpRestructure:
		return fieldLoan | fieldRate | fieldCount, true
	case api.OpDay, api.OpTick:
		return fieldDays, true
	case api.OpFate:
		return fieldText, true
	case api.OpCrash:
		return fieldCount | fieldDays, true
	case api.OpCalm, api.OpCompact, api.OpRestart, api.OpBooks,
		api.OpAging, api.OpNotices, api.OpTimers, api.OpToday:
		return 0, true
	}
	return 0, false
}
