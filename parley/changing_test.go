package parley_test

import (
	"testing"

	"parley/api"
	"parley/parley"
)

// ofView: a frame of a view, of each kind that a keeper among three may get from another one.
func ofView(me, view int) []api.Frame {
	a := line(7, 1, "a")
	var all []api.Frame
	for from := range 3 {
		frames := []api.Frame{hold(from, view, 1), change(from, view), yield(from, view, 1, view, a), lag(from, view)}
		if from == view%3 {
			frames = append(frames, prepare(from, view, 1, 1, a), beat(from, view, 1), begin(from, view, 1, a))
		}
		if from != me {
			all = append(all, frames...)
		}
	}
	return all
}

func TestP8OfALesserView(t *testing.T) {
	a, b := line(8, 1, "a"), line(9, 1, "b")
	for _, view := range []int{0, 1, 2, 6, 48, 49} {
		for me := range 3 {
			for _, f := range ofView(me, view) {
				k := openAs(t, 3, me, allRecord(view, a, b)+viewRecord(50))
				same := unchanged(t, k)
				hears(t, k, f, to(f.From, change(me, 50)))
				same("between views, a frame of a lesser one")
				k = openAs(t, 3, me, allRecord(50, a, b))
				same = unchanged(t, k)
				if me == 50%3 {
					hears(t, k, f, to(f.From, begin(me, 50, 0, a, b)))
				} else {
					hears(t, k, f)
				}
				same("in the view, a frame of a lesser one")
			}
		}
	}
}

// The Begin of who is the head tells what is agreed; it is not the head of a view that has not begun for it.
func TestP8TheHeadTellsAll(t *testing.T) {
	a, b := line(7, 1, "a"), line(8, 1, "b")
	k := openAs(t, 3, 1, allRecord(1, a, b))
	hears(t, k, hold(0, 1, 1), told(1, 1, a))
	hears(t, k, hold(2, 0, 2), to(2, begin(1, 1, 1, a, b)))
	hears(t, k, lag(0, 0), to(0, begin(1, 1, 1, a, b)))
	wantAgreed(t, k, a)
	ticks(t, k, to(0, prepare(1, 1, 2, 1, b)), to(2, prepare(1, 1, 1, 1, a))) // the Hold of view 0 does not count
	k = openAs(t, 3, 1, moreRecord(a)+viewRecord(100))
	hears(t, k, lag(0, 99), to(0, change(1, 100)))
}

func TestP8OfAGreaterViewIsMissed(t *testing.T) {
	a := line(7, 1, "a")
	for _, disk := range []string{moreRecord(a), allRecord(1, a), allRecord(2, a), moreRecord(a) + viewRecord(1), allRecord(1, a) + viewRecord(2)} {
		for _, view := range []int{3, 4, 5, 6, 99, 100} {
			for me := range 3 {
				for _, f := range ofView(me, view) {
					if f.Kind == api.Change || f.Kind == api.Yield || f.Kind == api.Begin {
						continue
					}
					k := openAs(t, 3, me, disk)
					same := unchanged(t, k)
					hears(t, k, f, to(f.From, lag(me, view)))
					same("a frame of a greater view")
				}
			}
		}
	}
}

// changesTo: each way in which a keeper may hear that it is to change to a view.
func changesTo(from, view int) []api.Frame {
	return []api.Frame{change(from, view), yield(from, view, 20, 100, line(9, 1, "")), yield(from, view, 0, 0)}
}

// What a keeper has stays as it is when it changes, and a view is written.
func TestP8Changes(t *testing.T) {
	a, b := line(7, 1, "a"), line(8, 1, "b")
	for _, c := range []struct {
		me   int
		disk string
		last int
	}{
		{4, moreRecord(a) + moreRecord(b), 0},
		{4, allRecord(3, a, b), 3},
		{3, allRecord(3, a, b), 3},
		{3, allRecord(2, a, b) + viewRecord(3), 2},
		{2, allRecord(2, a, b) + viewRecord(5), 2},
	} {
		others := [][]int{2: {0, 1, 3, 4}, 3: {0, 1, 2, 4}, 4: {0, 1, 2, 3}}[c.me]
		for _, view := range []int{6, 7, 8, 9, 10, 99, 100} {
			for _, f := range changesTo(1, view) {
				k := openAs(t, 5, c.me, c.disk)
				hears(t, k, f, toEach(change(c.me, view), others...)...)
				wantState(t, k, view, c.last, 2, 0)
				wantDisk(t, k, c.disk+viewRecord(view))
			}
		}
	}
}

func TestP8WhatIsAgreedStays(t *testing.T) {
	a, b := line(7, 1, "a"), line(8, 1, "b")
	head := openAs(t, 5, 0, moreRecord(a)+moreRecord(b))
	hears(t, head, hold(1, 0, 1))
	hears(t, head, hold(2, 0, 1), told(0, 1, a))
	hears(t, head, change(3, 1), toEach(change(0, 1), 1, 2, 3, 4)...)
	wantState(t, head, 1, 0, 2, 1)
	wantAgreed(t, head, a)
	hears(t, head, change(4, 1), to(1, yield(0, 1, 1, 0, a, b)))
	follower := openAs(t, 5, 4, moreRecord(a)+moreRecord(b))
	hears(t, follower, beat(0, 0, 2), to(0, hold(4, 0, 2)))
	hears(t, follower, yield(0, 3, 0, 0), toEach(change(4, 3), 0, 1, 2, 3)...)
	wantAgreed(t, follower, a, b)
}

// A Change of a greater view counts there as one that was heard.
func TestP8ThenItIsOfItsOwnView(t *testing.T) {
	a := line(7, 1, "a")
	k := openAs(t, 3, 2, moreRecord(a))
	want := append(toEach(change(2, 1), 0, 1), to(1, yield(2, 1, 0, 0, a)))
	hears(t, k, change(0, 1), want...)
	want = append(toEach(change(2, 4), 0, 1), to(1, yield(2, 4, 0, 0, a)))
	hears(t, k, change(1, 4), want...)
	hears(t, k, change(1, 5), toEach(change(2, 5), 0, 1)...) // the head by number sends itself nothing
	hears(t, k, yield(0, 5, 1, 0, a), toEach(begin(2, 5, 1, a), 0, 1)...)
	// and a Yield, to the head by number
	k = openAs(t, 3, 1, moreRecord(a))
	hears(t, k, yield(0, 1, 1, 0, a), toEach(change(1, 1), 0, 2)...)
	hears(t, k, change(2, 1), toEach(begin(1, 1, 1, a), 0, 2)...)
	// and is no Change
	k = openAs(t, 3, 2, "")
	hears(t, k, yield(0, 1, 0, 0), toEach(change(2, 1), 0, 1)...)
	ticks(t, k, toEach(change(2, 1), 0, 1)...)
}

// What was heard in one view does not count in the next.
func TestP8HasHeardOfNothing(t *testing.T) {
	for _, next := range changesTo(3, 4) {
		k := openAs(t, 5, 2, viewRecord(1))
		hears(t, k, change(0, 1))
		hears(t, k, next, toEach(change(2, 4), 0, 1, 3, 4)...)
		if next.Kind == api.Yield {
			hears(t, k, change(3, 4))
		}
		ticks(t, k, toEach(change(2, 4), 0, 1, 3, 4)...) // it has not yielded
		hears(t, k, change(3, 4))
		hears(t, k, change(1, 4), to(4, yield(2, 4, 0, 0)))
	}
	a := line(7, 1, "a")
	k := openAs(t, 3, 1, viewRecord(1))
	hears(t, k, yield(0, 1, 1, 0, a))
	hears(t, k, change(2, 4), toEach(change(1, 4), 0, 2)...)
	wantState(t, k, 4, 0, 0, 0)
	hears(t, k, yield(2, 4, 0, 0), toEach(begin(1, 4, 0), 0, 2)...)
	wantState(t, k, 4, 4, 0, 0)
}

func TestP8HasNotYielded(t *testing.T) {
	k := openAs(t, 5, 2, viewRecord(1))
	hears(t, k, change(0, 1))
	hears(t, k, change(1, 1), to(1, yield(2, 1, 0, 0)))
	hears(t, k, yield(3, 3, 0, 0), toEach(change(2, 3), 0, 1, 3, 4)...)
	ticks(t, k, toEach(change(2, 3), 0, 1, 3, 4)...)
	hears(t, k, change(0, 3))
	hears(t, k, change(4, 3), to(3, yield(2, 3, 0, 0)))
}

func TestP8HasWaitedNoTick(t *testing.T) {
	for _, disk := range []string{"", viewRecord(1)} {
		for _, f := range changesTo(3, 3) {
			k := openAs(t, 5, 2, disk)
			for range 4 {
				tickUnseen(t, k)
			}
			hears(t, k, f, toEach(change(2, 3), 0, 1, 3, 4)...)
			for range 4 {
				ticks(t, k, toEach(change(2, 3), 0, 1, 3, 4)...)
			}
			ticks(t, k, toEach(change(2, 4), 0, 1, 3, 4)...)
		}
	}
}

// tickUnseen: a tick, whatever is sent then.
func tickUnseen(t *testing.T, k *parley.Keeper) {
	t.Helper()
	if _, e := k.Tick(); e != api.OK {
		t.Errorf("P10: Tick: %d", e)
	}
}

// A frame that is refused changes no view.
func TestP8WrongFrames(t *testing.T) {
	k := openAs(t, 3, 1, "")
	same := unchanged(t, k)
	for _, f := range []api.Frame{change(1, 4), change(3, 4), change(4, 4), yield(1, 4, 0, 0), yield(3, 4, 0, 0), begin(0, 4, 0), begin(2, 4, 0), begin(1, 4, 0), lag(1, 4)} {
		refuses(t, k, packed(t, f), api.ErrFrame)
	}
	refuses(t, k, []byte(checked("\x05\x00\x65\x00\x00\x00")), api.ErrFrame) // a view above 100
	same("frames that are refused")
}
