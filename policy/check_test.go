package policy_test

import (
	"reflect"
	"testing"

	"arrears/api"
)

// bounds are those of the fields that are numbers, by the chapter's table, beside the other fields of the policy of the examples.
var bounds = [17]struct{ from, to int64 }{
	{1, 3652059}, {0, 30}, {11, 365}, {1, 365},
	{0, 10000}, {0, 1000000000}, {1500, 1000000000}, {0, 1000000000}, {0, 1000000000},
	{0, 8}, {1, 60}, {0, 4},
	{0, 5}, {0, 3}, {1, 64}, {2, 64}, {0, 1000},
}

// set lays a number into the field of that number, as the fields stand in api.Policy.
func set(p api.Policy, field int, n int64) api.Policy {
	reflect.ValueOf(&p).Elem().Field(field - 1).SetInt(n)
	return p
}

// loose is a policy under which each field may go to both of its ends but for the three that hang on another.
func loose() api.Policy {
	return with(func(p *api.Policy) {
		p.Grace, p.NonAccrual, p.LateMin, p.LateMax, p.RetryBase, p.RetryCap = 0, 365, 0, 1000000000, 1, 64
	})
}

// 12.1: there are eighteen fields, the last of them the holidays: a field more would be one without a rule.
func TestFieldsAreEighteen(t *testing.T) {
	kind := reflect.TypeFor[api.Policy]()
	if kind.NumField() != 18 || kind.Field(17).Name != "Holidays" {
		t.Errorf("12.1: api.Policy has %d fields", kind.NumField())
	}
}

// 12.1: each field at both of its ends, and one beyond each.
func TestEachFieldAtItsEnds(t *testing.T) {
	for i, b := range bounds {
		field := i + 1
		refuses(t, set(example(), field, b.from-1), field)
		refuses(t, set(example(), field, b.to+1), field)
		// Of a field that another hangs on, the upper end needs room in the other.
		passes(t, set(loose(), field, b.to))
		passes(t, set(example(), field, b.from))
		passes(t, set(example(), field, b.from+1))
	}
}

// 12.1: numbers far away, and such as a narrower int would take for ones that may be.
func TestEachFieldFarAway(t *testing.T) {
	for i, b := range bounds {
		for _, n := range []int64{least, least + 1, least + b.to, -1 << 32, 1<<32 + b.from, 1<<32 + b.to, 1<<62 + b.from, most - 1, most} {
			refuses(t, set(example(), i+1, n), i+1)
			refuses(t, set(loose(), i+1, n), i+1)
		}
		for _, n := range []int64{-1 << 32, -1 << 16, -256} {
			refuses(t, set(example(), i+1, n+b.from), i+1)
		}
	}
}

// 12.1: every number of the fields that have few, and some beyond.
func TestSmallFieldsWhole(t *testing.T) {
	for i, b := range bounds {
		if b.to > 1000 {
			continue
		}
		for n := int64(-20); n <= b.to+20; n++ {
			if p := set(loose(), i+1, n); n < lowest(p, i+1) || n > b.to {
				refuses(t, p, i+1)
			} else {
				passes(t, p)
			}
		}
	}
}

// lowest is the chapter's column 'from', with the three that hang on another field.
func lowest(p api.Policy, field int) int64 {
	switch field {
	case 3:
		return int64(p.Grace) + 1
	case 7:
		return p.LateMin
	case 16:
		return int64(p.RetryBase)
	}
	return bounds[field-1].from
}

// 12.1: the first of two fields that may not be is told, whichever they are and however far off.
func TestFirstOfTwo(t *testing.T) {
	for i := range bounds {
		for j := range i {
			for _, n := range []int64{least, most} {
				for _, m := range []int64{least, most} {
					refuses(t, set(set(example(), i+1, n), j+1, m), j+1)
				}
			}
		}
		for _, n := range []int64{least, most} {
			p := set(example(), i+1, n)
			p.Holidays = []int{0}
			refuses(t, p, i+1)
		}
	}
}

// 12.1: of many that may not be, the first.
func TestFirstOfMany(t *testing.T) {
	for _, n := range []int64{least, -1, most} {
		p := example()
		p.Holidays = []int{7, 6}
		refuses(t, p, 18)
		for field := len(bounds); field > 0; field-- {
			p = set(p, field, n)
			refuses(t, p, field)
		}
	}
}

// 12.1: a policy of zeros has no first day.
func TestZeros(t *testing.T) {
	refuses(t, api.Policy{}, 1)
	p := api.Policy{FirstDay: 1}
	refuses(t, p, 3)
	p.NonAccrual = 1
	refuses(t, p, 4)
	p.ChargeOff = 1
	refuses(t, p, 11)
	p.PromiseDays = 1
	refuses(t, p, 15)
	p.RetryBase = 1
	refuses(t, p, 16)
	p.RetryCap = 1
	passes(t, p)
}

// 12.1: NonAccrual hangs on Grace, RetryCap on RetryBase: every pair about their ranges.
func TestPairsOfDaysAndTicks(t *testing.T) {
	for grace := -2; grace <= 32; grace++ {
		for days := -2; days <= 368; days++ {
			p := with(func(p *api.Policy) { p.Grace, p.NonAccrual = grace, days })
			pair(t, p, 2, grace >= 0 && grace <= 30, days > grace && days <= 365)
		}
	}
	for base := -2; base <= 67; base++ {
		for limit := -2; limit <= 67; limit++ {
			p := with(func(p *api.Policy) { p.RetryBase, p.RetryCap = base, limit })
			pair(t, p, 15, base >= 1 && base <= 64, limit >= base && limit <= 64)
		}
	}
}

// 12.1: LateMax hangs on LateMin, to the ends of both.
func TestPairsOfFees(t *testing.T) {
	numbers := []int64{least, -1, 0, 1, 2, 1499, 1500, 1501, 999999999, 1000000000, 1000000001, most}
	for _, low := range numbers {
		for _, high := range numbers {
			p := with(func(p *api.Policy) { p.LateMin, p.LateMax = low, high })
			pair(t, p, 6, low >= 0 && low <= 1000000000, high >= low && high <= 1000000000)
		}
	}
}

// pair holds Check to a field and to the one behind it.
func pair(t *testing.T, p api.Policy, field int, first, second bool) {
	t.Helper()
	switch {
	case !first:
		refuses(t, p, field)
	case !second:
		refuses(t, p, field+1)
	default:
		passes(t, p)
	}
}

// 12.1: the greatest Grace there is has no day behind it: what hangs on it must not come round.
func TestNoWrapBehindGrace(t *testing.T) {
	for _, days := range []int{least, -1, 0, 1, 365, most} {
		refuses(t, with(func(p *api.Policy) { p.Grace, p.NonAccrual = most, days }), 2)
		refuses(t, with(func(p *api.Policy) { p.Grace, p.NonAccrual = least, days }), 2)
	}
}
