package collect_test

import (
	"slices"
	"testing"

	"arrears/api"
	"arrears/collect"
)

// guarded lays a list into the midst of a longer memory, and hands out that memory too.
func guarded[T any](list []T, guard T) (inside, all []T) {
	all = slices.Concat([]T{guard, guard}, list, slices.Repeat([]T{guard}, 16))
	return all[2 : 2+len(list)], all
}

// long is a run in which most events are accepted, some are refused, and every action is taken.
func long() []api.Event {
	return []api.Event{
		age(100, 6), promise(100, 50, 10), fee(0), paid(50, 6), age(140, 46), paid(1, 0),
		age(141, 7), promise(141, 50, 1), age(143, 9), restructure(), restructure(),
		age(150, 6), age(210, 66), shut(),
	}
}

// longActions are the actions of the long run.
func longActions() []int {
	return []int{
		api.ActDelinquent, api.ActKept, api.ActNonAccrual, api.ActCured,
		api.ActDelinquent, api.ActBroken, api.ActRestructured,
		api.ActDelinquent, api.ActNonAccrual, api.ActChargeOff,
	}
}

// 13.11: a run is its events one after the other, without those that are refused.
func TestRun(t *testing.T) {
	want := api.Case{Status: api.ChargedOff, Cycles: 3, Kept: 1, Broken: 1, Cures: 1, Restructures: 1}
	if c, acts := collect.Run(example(), collect.Fresh(), long()); c != want || !slices.Equal(acts, longActions()) {
		t.Errorf("13.11: Run = %+v, %v, want %+v, %v", c, acts, want, longActions())
	}
	for _, none := range [][]api.Event{nil, {}} {
		for _, c := range cases() {
			if got, acts := collect.Run(example(), c, none); got != c || len(acts) != 0 {
				t.Errorf("13.11: Run(%+v) of no events = %+v, %v", c, got, acts)
			}
		}
	}
}

// 13.11: a run is cut anywhere, and the two come to the same.
func TestRunInTwo(t *testing.T) {
	events := long()
	whole, all := collect.Run(example(), collect.Fresh(), events)
	for cut := range len(events) + 1 {
		first, acts := collect.Run(example(), collect.Fresh(), events[:cut])
		second, more := collect.Run(example(), first, events[cut:])
		if second != whole || !slices.Equal(slices.Concat(acts, more), all) {
			t.Errorf("13.11: cut at %d: %+v, %v and %v, want %+v, %v", cut, second, acts, more, whole, all)
		}
	}
}

// 13.1: events and holidays that are handed in stay as they are, what lies around them too.
func TestListsStay(t *testing.T) {
	events, around := guarded(long(), age(5, 77))
	holidays, near := guarded([]int{7, 8, 150}, 77)
	before, ahead := slices.Clone(around), slices.Clone(near)
	p := with(func(p *api.Policy) { p.Holidays = holidays })
	for n := range len(events) + 1 {
		collect.Run(p, collect.Fresh(), events[:n])
	}
	for _, c := range cases() {
		for _, e := range everyKind() {
			collect.Step(p, c, e)
		}
	}
	if !slices.Equal(around, before) || !slices.Equal(near, ahead) {
		t.Errorf("13.1: lists that were handed in are changed: %v, %v", around, near)
	}
}

// scribble writes over a list and over its spare room.
func scribble(list []int) {
	list = list[:cap(list)]
	for i := range list {
		list[i] = -7
	}
}

// 13.1: answered actions are new memory, their spare room too: no answer changes with another one.
func TestActionsAreNew(t *testing.T) {
	p := example()
	for _, c := range cases() {
		for _, e := range append(everyKind(), age(170, 40), paid(500, 0)) {
			_, first, _ := collect.Step(p, c, e)
			_, second, _ := collect.Step(p, c, e)
			kept := slices.Clone(second)
			scribble(first)
			_, third, _ := collect.Step(p, c, e)
			if !slices.Equal(second, kept) || !slices.Equal(third, kept) {
				t.Errorf("13.1: the actions of Step(%+v, %+v) share memory: %v, %v, want %v", c, e, second, third, kept)
			}
		}
	}
	_, first := collect.Run(p, collect.Fresh(), long())
	_, second := collect.Run(p, collect.Fresh(), long())
	scribble(first)
	_, third := collect.Run(p, collect.Fresh(), long())
	if !slices.Equal(second, longActions()) || !slices.Equal(third, longActions()) {
		t.Errorf("13.1: the actions of Run share memory: %v, %v", second, third)
	}
}

// 13.1: a run of one event does not hand out what a step handed out.
func TestRunIsNotStep(t *testing.T) {
	_, step, _ := collect.Step(example(), collect.Fresh(), age(9, 40))
	_, run := collect.Run(example(), collect.Fresh(), []api.Event{age(9, 40)})
	scribble(step)
	if !slices.Equal(run, []int{api.ActDelinquent, api.ActNonAccrual}) {
		t.Errorf("13.1: the run's actions changed with the step's: %v", run)
	}
}

// 13.1: nothing is kept: the same call answers the same, whatever was called in between.
func TestNothingIsKept(t *testing.T) {
	for _, c := range cases() {
		for _, e := range everyKind() {
			want, acts, why := collect.Step(example(), c, e)
			collect.Run(example(), collect.Fresh(), long())
			collect.Step(api.Policy{}, promised(), e)
			got, again, also := collect.Step(example(), c, e)
			if got != want || !slices.Equal(again, acts) || also != why {
				t.Errorf("13.1: Step(%+v, %+v) = %+v, %v, %d, then %+v, %v, %d", c, e, want, acts, why, got, again, also)
			}
		}
	}
}

// 13.1: nil and no holidays say the same.
func TestNoHolidays(t *testing.T) {
	none := with(func(p *api.Policy) { p.Holidays = []int{} })
	c, acts := collect.Run(none, collect.Fresh(), long())
	d, same := collect.Run(example(), collect.Fresh(), long())
	if c != d || !slices.Equal(acts, same) {
		t.Errorf("13.1: with no holidays %+v, %v, with nil %+v, %v", c, acts, d, same)
	}
}
