package backdate

import (
	"arrears/api"
	"arrears/engine"
)

// cut is where a history is parted: at the end of a day.
type cut struct {
	place int // of the operation that goes across that end; behind the last one, if none does
	days  int // of that operation, that lie ahead of the end
}

// find plays a history up to the end of a day, and tells the portfolio that is there, if it takes the operation.
func find(p api.Policy, ops []api.Op, day int, o api.Op) (cut, *engine.Engine, api.Errno) {
	e, why := engine.New(p)
	if why != api.OK {
		return cut{}, nil, why
	}
	if o.Kind != api.OpPay && o.Kind != api.OpWaive {
		return cut{}, nil, api.ErrKind
	}
	if day < p.FirstDay {
		return cut{}, nil, api.ErrDate
	}
	c, there := playUpto(e, p.FirstDay, ops, day)
	if !there {
		return cut{}, nil, api.ErrDate
	}
	return c, e, e.Check(o)
}

// playUpto plays operations on a portfolio of today, up to the end of a day that is not ahead of it. false: they end ahead of that day.
func playUpto(e *engine.Engine, today int, ops []api.Op, day int) (cut, bool) {
	for place, o := range ops {
		if o.Kind != api.OpDay {
			e.Apply(o)
			continue
		}
		ahead := day - today
		// One that is refused goes across no end, however many days it has.
		if o.Days > ahead && e.Check(o) == api.OK {
			if ahead > 0 {
				e.Apply(passing(ahead))
			}
			return cut{place: place, days: ahead}, true
		}
		if e.Apply(o).Err == api.OK {
			today += o.Days
		}
	}
	return cut{place: len(ops)}, day == today
}

// divide is what lies ahead of a cut, and what lies behind it. An operation behind it has the place that it had, counted from the cut's place on.
func (c cut) divide(ops []api.Op) (front, back []api.Op) {
	// The front has no spare room: what is laid behind it writes over nothing of what was handed in.
	front, back = ops[:c.place:c.place], ops[c.place:]
	if c.days > 0 {
		front = append(front, passing(c.days))
		back = append([]api.Op{passing(back[0].Days - c.days)}, back[1:]...)
	}
	return front, back
}

// passing lets so many days pass.
func passing(days int) api.Op {
	return api.Op{Kind: api.OpDay, Days: days}
}

// leftOut tells whether an operation is none of a history's.
func leftOut(o api.Op) bool {
	return o.Kind < api.OpOpen || o.Kind > api.OpDay
}
