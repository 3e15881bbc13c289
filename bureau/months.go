package bureau

import (
	"arrears/api"
	"arrears/calendar"
	"arrears/engine"
)

// longest is how many days no month has more of: as an anchor it leads to a month's last day.
const longest = 31

// history is what was taken of a row of operations, and the day at its end.
type history struct {
	policy api.Policy
	taken  []api.Op
	today  int
}

// past plays operations on a new portfolio.
func past(p api.Policy, e *engine.Engine, ops []api.Op) history {
	h := history{policy: p}
	for _, o := range ops {
		if e.Apply(o).Err == api.OK {
			h.taken = append(h.taken, o)
		}
	}
	h.today = int(e.Ask(api.Op{Kind: api.OpToday}).Nums[0])
	return h
}

// ends are the portfolios at the ends of the last whole months, the earliest first; there are none of the days ahead of the first one.
func (h history) ends(months int) []api.State {
	var ends []api.State
	for s := range h.sentEnds(months) {
		ends = append(ends, s)
	}
	return ends
}

// sentEnds sends those portfolios.
func (h history) sentEnds(months int) <-chan api.State {
	// 0 is ahead of every day: where the earliest of the months lies ahead of the year 1, all are asked for.
	from, _ := calendar.AddMonths(h.today, -months, longest)
	ends := make(chan api.State)
	go func() {
		defer close(ends)
		h.send(ends, from)
	}()
	return ends
}

// send plays what was taken, and sends the portfolio at each month's end from a day on.
func (h history) send(ends chan<- api.State, from int) {
	e, _ := engine.New(h.policy)
	today := h.policy.FirstDay
	for _, o := range h.taken {
		if o.Kind != api.OpDay {
			e.Apply(o)
			continue
		}
		behind := today + o.Days
		// Its days may be taken in several parts, for the whole was taken.
		for end := monthsEnd(max(today, from)); end < behind; end = monthsEnd(end + 1) {
			pass(e, end-today)
			today = end
			ends <- e.Save()
		}
		pass(e, behind-today)
		today = behind
	}
}

// monthsEnd is the last day of the month in which a day lies.
func monthsEnd(day int) int {
	end, _ := calendar.AddMonths(day, 0, longest)
	return end
}

// pass lets so many days pass. (Of no days it is refused, and nothing has passed.)
func pass(e *engine.Engine, days int) {
	e.Apply(api.Op{Kind: api.OpDay, Days: days})
}
