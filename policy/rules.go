package policy

import "arrears/api"

// rule says from where to where the number of a policy's field may be.
type rule struct {
	field func(p api.Policy) int64
	from  func(p api.Policy) int64
	to    int64
}

// rules are those of the fields that are numbers, in the fields' order. A field that another one hangs on stands ahead of it: where the later one is asked, the earlier one may be, and Grace + 1 can't wrap.
func rules() [17]rule {
	return [17]rule{
		{func(p api.Policy) int64 { return int64(p.FirstDay) }, always(1), api.MaxDay},
		{func(p api.Policy) int64 { return int64(p.Grace) }, always(0), 30},
		{func(p api.Policy) int64 { return int64(p.NonAccrual) }, func(p api.Policy) int64 { return int64(p.Grace) + 1 }, 365},
		{func(p api.Policy) int64 { return int64(p.ChargeOff) }, always(1), 365},
		{func(p api.Policy) int64 { return p.LateRate }, always(0), 10000},
		{func(p api.Policy) int64 { return p.LateMin }, always(0), api.MaxFee},
		{func(p api.Policy) int64 { return p.LateMax }, func(p api.Policy) int64 { return p.LateMin }, api.MaxFee},
		{func(p api.Policy) int64 { return p.CycleCap }, always(0), api.MaxFee},
		{func(p api.Policy) int64 { return p.LifeCap }, always(0), api.MaxFee},
		{func(p api.Policy) int64 { return int64(p.Promises) }, always(0), 8},
		{func(p api.Policy) int64 { return int64(p.PromiseDays) }, always(1), 60},
		{func(p api.Policy) int64 { return int64(p.Restructures) }, always(0), 4},
		{func(p api.Policy) int64 { return int64(p.Order) }, always(0), 5},
		{func(p api.Policy) int64 { return int64(p.Rule) }, always(api.RuleNone), api.RuleModified},
		{func(p api.Policy) int64 { return int64(p.RetryBase) }, always(1), 64},
		{func(p api.Policy) int64 { return int64(p.RetryCap) }, func(p api.Policy) int64 { return int64(p.RetryBase) }, 64},
		{func(p api.Policy) int64 { return int64(p.SnapEvery) }, always(0), 1000},
	}
}

// always is a bound that hangs on no field.
func always(bound int64) func(p api.Policy) int64 {
	return func(api.Policy) int64 { return bound }
}

// holidaysMayBe tells whether a policy may have these holidays.
func holidaysMayBe(holidays []int) bool {
	if len(holidays) > api.MaxHolidays {
		return false
	}
	before := 0
	for _, day := range holidays {
		if day <= before || day > api.MaxDay {
			return false
		}
		before = day
	}
	return true
}
