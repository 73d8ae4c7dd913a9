package parley_test

import (
	"testing"

	"parley/api"
	"parley/parley"
)

func TestP10WhoFollowsWaits(t *testing.T) {
	for patience := 2; patience <= 20; patience++ {
		k := openPatient(t, 3, 2, patience, "")
		for range patience - 1 {
			ticks(t, k)
		}
		wantState(t, k, 0, 0, 0, 0)
		wantDisk(t, k, "")
		ticks(t, k, toEach(change(2, 1), 0, 1)...)
		wantState(t, k, 1, 0, 0, 0)
		wantDisk(t, k, viewRecord(1))
	}
}

func TestP10WhoIsBetweenViewsWaits(t *testing.T) {
	for patience := 2; patience <= 20; patience++ {
		disk := allRecord(1) + viewRecord(3)
		k := openPatient(t, 5, 4, patience, disk)
		for view := 3; view < 9; view++ {
			for range patience - 1 {
				ticks(t, k, toEach(change(4, view), 0, 1, 2, 3)...)
				wantState(t, k, view, 1, 0, 0)
			}
			ticks(t, k, toEach(change(4, view+1), 0, 1, 2, 3)...)
			disk += viewRecord(view + 1)
			wantDisk(t, k, disk)
		}
	}
}

// follower: the keeper 2 of 3, with two lines, in view 1, which has Patience 3 and has waited 2 ticks.
func follower(t *testing.T) *parley.Keeper {
	t.Helper()
	k := openPatient(t, 3, 2, 3, allRecord(1, line(7, 1, "a"), line(8, 1, "b")))
	ticks(t, k)
	ticks(t, k)
	return k
}

func TestP10WhatIsWaitedFor(t *testing.T) {
	a, b, c := line(7, 1, "a"), line(8, 1, "b"), line(9, 1, "c")
	for _, f := range []api.Frame{
		prepare(1, 1, 3, 0, c),
		prepare(1, 1, 1, 0, a),
		prepare(1, 1, 3, 0, b), // of a turn that does not rise
		prepare(1, 1, 4, 0, c), // beyond the next place
		beat(1, 1, 0),
		beat(1, 1, 2),
		beat(1, 1, 3), // beyond its lines
		begin(1, 1, 0, a, b, c),
		begin(1, 1, 0, a, b), // nothing new
		begin(1, 1, 0),
		begin(1, 4, 0, a),
	} {
		k := follower(t)
		heardUnseen(t, k, f)
		view := k.State().View
		ticks(t, k)
		ticks(t, k)
		ticks(t, k, toEach(change(2, view+1), 0, 1)...)
	}
}

// heardUnseen: a frame, whatever is sent then.
func heardUnseen(t *testing.T, k *parley.Keeper, f api.Frame) {
	t.Helper()
	if _, e := k.Heard(packed(t, f)); e != api.OK {
		t.Errorf("P6: Heard(%+v): %d", f, e)
	}
}

func TestP10WhatIsNotWaitedFor(t *testing.T) {
	a, c := line(7, 1, "a"), line(9, 1, "c")
	for _, f := range []api.Frame{
		say(a), say(c), hold(1, 1, 1), hold(0, 1, 1), lag(1, 1), change(1, 1), change(0, 1), yield(0, 1, 0, 0), // nothing in its state
		prepare(0, 0, 3, 0, c), beat(0, 0, 0), begin(0, 0, 0, a), change(0, 0), // of a lesser view
		prepare(0, 3, 3, 0, c), beat(1, 4, 0), hold(1, 4, 0), lag(0, 5), // of a greater one
	} {
		k := follower(t)
		heardUnseen(t, k, f)
		ticks(t, k, toEach(change(2, 2), 0, 1)...)
	}
	k := follower(t)
	refuses(t, k, []byte("no frame"), api.ErrFrame)
	refuses(t, k, packed(t, beat(0, 1, 0)), api.ErrFrame)
	ticks(t, k, toEach(change(2, 2), 0, 1)...)
}

// Between views nothing but a Begin, or another view, lets the wait begin anew.
func TestP10WhatIsNotWaitedForBetweenViews(t *testing.T) {
	a := line(7, 1, "a")
	for _, f := range []api.Frame{
		prepare(1, 4, 1, 0, a), beat(1, 4, 0), change(0, 4), change(1, 4), yield(0, 4, 0, 0), hold(0, 4, 0), lag(0, 4), say(a),
		beat(0, 0, 0), change(0, 3), beat(0, 6, 0), lag(1, 5),
	} {
		k := openPatient(t, 3, 2, 3, viewRecord(4))
		tickUnseen(t, k)
		tickUnseen(t, k)
		heardUnseen(t, k, f)
		ticks(t, k, toEach(change(2, 5), 0, 1)...)
	}
	k := openPatient(t, 3, 2, 3, viewRecord(4))
	tickUnseen(t, k)
	tickUnseen(t, k)
	hears(t, k, begin(1, 4, 0), to(1, hold(2, 4, 0)))
	ticks(t, k)
	ticks(t, k)
	ticks(t, k, toEach(change(2, 5), 0, 1)...)
}

func TestP10TheYieldAgain(t *testing.T) {
	a, b := line(7, 1, "a"), line(8, 1, "b")
	k := openAs(t, 5, 4, allRecord(3, a, b))
	hears(t, k, beat(3, 3, 1), to(3, hold(4, 3, 2)))
	hears(t, k, change(0, 6), toEach(change(4, 6), 0, 1, 2, 3)...)
	changes := toEach(change(4, 6), 0, 1, 2, 3)
	ticks(t, k, changes...)
	hears(t, k, change(2, 6), to(1, yield(4, 6, 1, 3, a, b)))
	again := append(changes, to(1, yield(4, 6, 1, 3, a, b)))
	for range 3 {
		ticks(t, k, again...)
	}
	ticks(t, k, toEach(change(4, 7), 0, 1, 2, 3)...)
	ticks(t, k, toEach(change(4, 7), 0, 1, 2, 3)...) // in that view it has not yielded
}

func TestP10TheHeadByNumberSendsNoYield(t *testing.T) {
	k := openAs(t, 5, 4, viewRecord(4))
	hears(t, k, change(0, 4))
	hears(t, k, change(1, 4))
	for range 4 {
		ticks(t, k, toEach(change(4, 4), 0, 1, 2, 3)...)
	}
	ticks(t, k, toEach(change(4, 5), 0, 1, 2, 3)...)
}

// A head does not wait; it does so anew from when it is one no more.
func TestP10TheHeadIsNeverImpatient(t *testing.T) {
	k := openPatient(t, 3, 1, 2, viewRecord(1))
	ticks(t, k, toEach(change(1, 1), 0, 2)...)
	hears(t, k, change(0, 1))
	hears(t, k, yield(0, 1, 0, 0), toEach(begin(1, 1, 0), 0, 2)...)
	for range 50 {
		ticks(t, k, toEach(beat(1, 1, 0), 0, 2)...)
	}
	wantState(t, k, 1, 1, 0, 0)
	hears(t, k, begin(2, 2, 0), to(2, hold(1, 2, 0)))
	ticks(t, k)
	ticks(t, k, toEach(change(1, 3), 0, 2)...)
}

func TestP10NoViewAbove100(t *testing.T) {
	k := openPatient(t, 3, 2, 3, viewRecord(99))
	ticks(t, k, toEach(change(2, 99), 0, 1)...)
	ticks(t, k, toEach(change(2, 99), 0, 1)...)
	ticks(t, k, toEach(change(2, 100), 0, 1)...)
	hears(t, k, change(0, 100), to(1, yield(2, 100, 0, 0)))
	for range 2 {
		ticks(t, k, to(0, change(2, 100)), to(1, change(2, 100)), to(1, yield(2, 100, 0, 0)))
	}
	same := unchanged(t, k)
	for range 50 {
		ticks(t, k)
	}
	hears(t, k, beat(0, 99, 0), to(0, change(2, 100)))
	hears(t, k, change(0, 100))
	ticks(t, k)
	same("it is in the last view")
	hears(t, k, begin(1, 100, 0), to(1, hold(2, 100, 0)))
	wantState(t, k, 100, 100, 0, 0)
}

func TestP10InTheLastView(t *testing.T) {
	k := openPatient(t, 3, 2, 2, allRecord(100))
	for range 50 {
		ticks(t, k)
	}
	hears(t, k, beat(1, 100, 0), to(1, hold(2, 100, 0)))
	for range 50 {
		ticks(t, k)
	}
	wantState(t, k, 100, 100, 0, 0)
	wantDisk(t, k, allRecord(100))
	head := openPatient(t, 3, 1, 2, viewRecord(100))
	for range 5 {
		tickUnseen(t, head)
	}
	hears(t, head, change(2, 100))
	ticks(t, head)
	hears(t, head, yield(2, 100, 0, 0), toEach(begin(1, 100, 0), 0, 2)...)
	for range 50 {
		ticks(t, head, toEach(beat(1, 100, 0), 0, 2)...)
	}
}

// Another keeper's number: who is the next head, and to whom Changes go.
func TestP10EachKeeperChanges(t *testing.T) {
	for me := 1; me < 5; me++ {
		k := openPatient(t, 5, me, 2, "")
		ticks(t, k)
		ticks(t, k, toEach(change(me, 1), othersOfFive(me)...)...)
		first, second := othersOfFive(me)[2], othersOfFive(me)[3]
		hears(t, k, change(second, 1))
		if me == 1 {
			hears(t, k, change(first, 1))
		} else {
			hears(t, k, change(first, 1), to(1, yield(me, 1, 0, 0)))
		}
	}
}
