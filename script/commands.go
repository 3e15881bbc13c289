package script

import "arrears/api"

// slot says where in an operation a field of a line goes, and how the field is written.
type slot int

// The first four are written as whole numbers.
const (
	loanSlot slot = iota
	rateSlot
	countSlot
	daysSlot
	amountSlot
	typeSlot    // for the Days, as the word of a kind of plan
	lettersSlot // for the Text
)

// command is how the operations of a kind are written: a word, and a field for each slot.
type command struct {
	word  string
	slots []slot
}

// commands stand each at its operation's kind; kind 0 is none. Reading and telling both ask this table, so that they cannot differ.
var commands = [...]command{
	api.OpOpen:        {"open", []slot{loanSlot, amountSlot, rateSlot, countSlot, typeSlot}},
	api.OpPay:         {"pay", []slot{loanSlot, amountSlot}},
	api.OpReturn:      {"return", []slot{loanSlot}},
	api.OpRefund:      {"refund", []slot{loanSlot, amountSlot}},
	api.OpWaive:       {"waive", []slot{loanSlot, amountSlot}},
	api.OpPromise:     {"promise", []slot{loanSlot, amountSlot, daysSlot}},
	api.OpRestructure: {"restructure", []slot{loanSlot, countSlot, rateSlot}},
	api.OpDay:         {"day", []slot{daysSlot}},
	api.OpTick:        {"tick", []slot{daysSlot}},
	api.OpFate:        {"fate", []slot{lettersSlot}},
	api.OpCalm:        {"calm", nil},
	api.OpCrash:       {"crash", []slot{countSlot, daysSlot}},
	api.OpCompact:     {"compact", nil},
	api.OpRestart:     {"restart", nil},
	api.OpLoan:        {"loan", []slot{loanSlot}},
	api.OpPlan:        {"plan", []slot{loanSlot}},
	api.OpBooks:       {"books", nil},
	api.OpAging:       {"aging", nil},
	api.OpNotices:     {"notices", nil},
	api.OpTimers:      {"timers", nil},
	api.OpToday:       {"today", nil},
}

// plans are the words of the kinds of plans, each at its number.
var plans = [...]string{
	api.PlanLevel:   "level",
	api.PlanEqual:   "equal",
	api.PlanBalloon: "balloon",
}

// kindOf is the kind of the operations that begin with this word.
func kindOf(word string) (int, bool) {
	for kind := api.OpOpen; kind <= api.OpToday; kind++ {
		if commands[kind].word == word {
			return kind, true
		}
	}
	return 0, false
}

// planOf is the kind of plan with this word.
func planOf(word string) (int, bool) {
	for plan, name := range plans {
		if name == word {
			return plan, true
		}
	}
	return 0, false
}

// planWord is the word of a kind of plan.
func planWord(plan int) (string, bool) {
	if plan < 0 || plan >= len(plans) {
		return "", false
	}
	return plans[plan], true
}
