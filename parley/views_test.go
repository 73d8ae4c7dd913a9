package parley_test

import (
	"testing"

	"parley/api"
	"parley/parley"
)

func TestP9ChangeOfFew(t *testing.T) {
	a, b := line(7, 1, "a"), line(8, 99, "eightlet")
	disk := allRecord(3, a, b) + viewRecord(6)
	k := openAs(t, 3, 2, disk)
	hears(t, k, change(1, 6), to(0, yield(2, 6, 0, 3, a, b)))
	hears(t, k, change(1, 6))
	hears(t, k, change(0, 6))
	wantDisk(t, k, disk)
	wantState(t, k, 6, 3, 2, 0)
	k = openAs(t, 5, 2, disk)
	hears(t, k, change(4, 6))
	hears(t, k, change(4, 6)) // heard twice, it is one
	hears(t, k, change(1, 6), to(1, yield(2, 6, 0, 3, a, b)))
	for _, from := range []int{0, 1, 3, 4} {
		hears(t, k, change(from, 6))
	}
	wantDisk(t, k, disk)
	wantState(t, k, 6, 3, 2, 0)
}

// Who is the head by number has heard of its own Yield, and sends itself none.
func TestP9TheHeadByNumberYieldsToItself(t *testing.T) {
	a, b := line(7, 1, "a"), line(8, 1, "b")
	disk := allRecord(3, a) + viewRecord(6)
	k := openAs(t, 3, 0, disk)
	hears(t, k, change(1, 6))
	hears(t, k, change(2, 6))
	ticks(t, k, toEach(change(0, 6), 1, 2)...)
	wantState(t, k, 6, 3, 1, 0)
	hears(t, k, yield(2, 6, 0, 3, a, b), toEach(begin(0, 6, 0, a, b), 1, 2)...)
	wantDisk(t, k, disk+allRecord(6, a, b))
	wantState(t, k, 6, 6, 2, 0)
}

// Without its own Yield no view begins, of however many others it has heard.
func TestP9ItsOwnYieldIsAmongThem(t *testing.T) {
	a, b := line(7, 1, "a"), line(8, 1, "b")
	disk := moreRecord(a) + viewRecord(6)
	k := openAs(t, 5, 1, disk)
	for _, from := range []int{4, 3, 2, 0} {
		hears(t, k, yield(from, 6, 0, 0, b))
	}
	hears(t, k, change(3, 6))
	wantState(t, k, 6, 0, 1, 0)
	hears(t, k, change(2, 6), toEach(begin(1, 6, 0, b), 0, 2, 3, 4)...)
	wantDisk(t, k, disk+allRecord(6, b))
	// three keepers
	k = openAs(t, 3, 0, disk)
	hears(t, k, yield(1, 6, 0, 0, b))
	hears(t, k, yield(2, 6, 0, 0, a, b))
	hears(t, k, change(2, 6), toEach(begin(0, 6, 0, a, b), 1, 2)...)
}

func TestP9YieldOfFewAndOne(t *testing.T) {
	a := line(7, 1, "a")
	k := openAs(t, 5, 3, viewRecord(8))
	hears(t, k, change(0, 8))
	hears(t, k, change(1, 8))
	hears(t, k, yield(2, 8, 0, 0, a))
	hears(t, k, yield(2, 8, 0, 0, a)) // heard twice, it is one
	hears(t, k, change(4, 8))
	wantState(t, k, 8, 0, 0, 0)
	hears(t, k, yield(0, 8, 0, 0), toEach(begin(3, 8, 0, a), 0, 1, 2, 4)...)
	wantState(t, k, 8, 8, 1, 0)
	same := unchanged(t, k)
	hears(t, k, yield(1, 8, 20, 100, line(9, 1, "")), to(1, begin(3, 8, 0, a))) // the view has begun
	hears(t, k, change(4, 8), to(4, begin(3, 8, 0, a)))
	same("the view has begun")
}

// A candidate: the Last and the lines of one who yields.
type candidate struct {
	last  int
	lines []api.Line
}

// The best, whoever of them is the head, and whose Yield comes first.
func TestP9TheBestOfThoseWhoYielded(t *testing.T) {
	a, b, c := line(7, 1, "a"), line(8, 1, "b"), line(9, 1, "c")
	for _, x := range []struct {
		name string
		of   [3]candidate // of the keepers 0, 1, 2
		best int
	}{
		{"the greatest Last", [3]candidate{{4, []api.Line{a, b}}, {5, []api.Line{c}}, {3, []api.Line{a, b, c}}}, 1},
		{"the greatest Last, without lines", [3]candidate{{4, []api.Line{a, b}}, {4, []api.Line{a, b, c}}, {5, nil}}, 2},
		{"the most lines", [3]candidate{{5, []api.Line{a}}, {4, []api.Line{a, b, c}}, {5, []api.Line{b, c}}}, 2},
		{"the least From", [3]candidate{{4, []api.Line{a, b}}, {5, []api.Line{b}}, {5, []api.Line{c}}}, 1},
		{"the least From of all", [3]candidate{{5, []api.Line{a}}, {5, []api.Line{b}}, {5, []api.Line{c}}}, 0},
		{"nothing at all", [3]candidate{}, 0},
	} {
		for head := range 3 {
			first, second := (head+1)%3, (head+2)%3
			for range 2 {
				k := openAs(t, 5, head, candidateDisk(x.of[head], 10+head))
				for _, from := range []int{first, second} {
					hears(t, k, yield(from, 10+head, 0, x.of[from].last, x.of[from].lines...))
				}
				hears(t, k, change(3, 10+head))
				want := x.of[x.best].lines
				hears(t, k, change(4, 10+head), toEach(begin(head, 10+head, 0, want...), othersOfFive(head)...)...)
				wantDisk(t, k, candidateDisk(x.of[head], 10+head)+allRecord(10+head, want...))
				wantState(t, k, 10+head, 10+head, len(want), 0)
				first, second = second, first
			}
		}
	}
}

func candidateDisk(c candidate, view int) string {
	return allRecord(c.last, c.lines...) + viewRecord(view)
}

func othersOfFive(me int) []int {
	var others []int
	for n := range 5 {
		if n != me {
			others = append(others, n)
		}
	}
	return others
}

func TestP9ALaterYieldTakesThePlace(t *testing.T) {
	a, b, c := line(7, 1, "a"), line(8, 1, "b"), line(9, 1, "c")
	k := openAs(t, 5, 1, viewRecord(6))
	hears(t, k, yield(0, 6, 2, 5, a, b))
	hears(t, k, yield(2, 6, 0, 3, b))
	hears(t, k, yield(0, 6, 0, 4, c))
	hears(t, k, change(3, 6))
	hears(t, k, change(4, 6), toEach(begin(1, 6, 0, c), 0, 2, 3, 4)...)
	wantState(t, k, 6, 6, 1, 0)
}

func TestP9AgreedIsTheGreatestOfAll(t *testing.T) {
	a, b, c := line(7, 1, "a"), line(8, 1, "b"), line(9, 1, "c")
	for _, x := range []struct{ own, first, second, want int }{
		{0, 0, 0, 0}, {1, 0, 0, 1}, {0, 1, 0, 1}, {0, 0, 1, 1}, {2, 1, 0, 2}, {1, 2, 0, 2}, {1, 0, 2, 2}, {2, 2, 2, 2},
		{0, 3, 2, 3}, {0, 4, 2, 3}, {1, 0, 20, 3}, {2, 3, 20, 3},
	} {
		k := openAs(t, 5, 2, allRecord(6, a, b))
		hears(t, k, beat(1, 6, x.own), to(1, hold(2, 6, 2)))
		hears(t, k, yield(0, 7, x.first, 5, a), toEach(change(2, 7), 0, 1, 3, 4)...)
		hears(t, k, yield(4, 7, x.second, 6, a, b, c))
		hears(t, k, change(3, 7))
		hears(t, k, change(0, 7), toEach(begin(2, 7, x.want, a, b, c), 0, 1, 3, 4)...)
		wantState(t, k, 7, 7, 3, x.want)
		wantAgreed(t, k, []api.Line{a, b, c}[:x.want]...)
	}
}

// Where fewer lines are written than were agreed, as wrong keepers may have it, no more are agreed than there are.
func TestP9AgreedIsNoMoreThanTheLines(t *testing.T) {
	a, b, c := line(7, 1, "a"), line(8, 1, "b"), line(9, 1, "c")
	k := agreedFollower(t, a, b)
	hears(t, k, yield(0, 7, 20, 100, c), toEach(change(2, 7), 0, 1, 3, 4)...)
	hears(t, k, yield(1, 7, 0, 0))
	hears(t, k, change(0, 7))
	hears(t, k, change(1, 7), toEach(begin(2, 7, 1, c), 0, 1, 3, 4)...)
	wantAgreed(t, k, c)
	for _, lines := range [][]api.Line{nil, {c}} {
		k = agreedFollower(t, a, b)
		hears(t, k, begin(3, 8, 0, lines...), to(3, hold(2, 8, len(lines))))
		wantAgreed(t, k, lines...)
		hears(t, k, prepare(3, 8, len(lines)+1, 0, a), to(3, hold(2, 8, len(lines)+1)))
		wantAgreed(t, k, lines...) // what was agreed ahead of it does not come back
	}
}

// agreedFollower: the keeper 2 of 5, in view 6, with lines that are all agreed.
func agreedFollower(t *testing.T, lines ...api.Line) *parley.Keeper {
	t.Helper()
	k := openAs(t, 5, 2, allRecord(6, lines...))
	hears(t, k, beat(1, 6, len(lines)), to(1, hold(2, 6, len(lines))))
	wantAgreed(t, k, lines...)
	return k
}

// When a view begins nobody holds anything yet, whatever the head knew of an earlier one.
func TestP9NobodyHoldsAnythingYet(t *testing.T) {
	a, b := line(7, 1, "a"), line(8, 1, "b")
	k := openAs(t, 3, 1, allRecord(1, a, b))
	hears(t, k, hold(0, 1, 2), told(1, 1, a), told(1, 2, b))
	hears(t, k, hold(2, 1, 1))
	ticks(t, k, to(0, beat(1, 1, 2)), to(2, prepare(1, 1, 2, 2, b)))
	hears(t, k, change(0, 4), toEach(change(1, 4), 0, 2)...)
	hears(t, k, yield(2, 4, 0, 1, a), toEach(begin(1, 4, 2, a, b), 0, 2)...)
	ticks(t, k, toEach(prepare(1, 4, 1, 2, a), 0, 2)...)
	c := line(9, 1, "c")
	hears(t, k, say(c), toEach(prepare(1, 4, 3, 2, c), 0, 2)...)
	hears(t, k, hold(0, 4, 1)) // less than was agreed
	hears(t, k, hold(0, 4, 3), told(4, 3, c))
}

// Who began a view tells a client that says its line again what came to be agreed by others' Yields.
func TestP9WhatWasAgreedEarlierIsTold(t *testing.T) {
	a, b := line(7, 1, "a"), line(8, 1, "b")
	k := openAs(t, 3, 1, moreRecord(a)+viewRecord(4))
	hears(t, k, change(0, 4))
	hears(t, k, yield(0, 4, 1, 3, a, b), toEach(begin(1, 4, 1, a, b), 0, 2)...)
	hears(t, k, say(a), told(4, 1, a))
	hears(t, k, say(b))
	hears(t, k, hold(2, 4, 2), told(4, 2, b))
}

// To who is not the head by number, or is in the view, a Yield says nothing; a Change neither.
func TestP9YieldToAnother(t *testing.T) {
	a, b := line(7, 1, "a"), line(8, 1, "b")
	k := openAs(t, 3, 2, moreRecord(a)+viewRecord(4))
	same := unchanged(t, k)
	hears(t, k, yield(0, 4, 1, 3, b))
	hears(t, k, yield(1, 4, 1, 3, b))
	same("a Yield to who is not the head by number")
	hears(t, k, change(0, 4), to(1, yield(2, 4, 0, 0, a)))
	hears(t, k, yield(0, 4, 1, 3, b))
	same("a Yield to who has yielded to another")
	hears(t, k, begin(1, 4, 1, a), to(1, hold(2, 4, 1)))
	same = unchanged(t, k)
	hears(t, k, change(0, 4))
	hears(t, k, change(1, 4))
	hears(t, k, yield(0, 4, 1, 3, b))
	same("in the view, not its head")
}

func TestP9BeginOfAGreaterView(t *testing.T) {
	a, b, c := line(7, 1, "a"), line(8, 1, "b"), line(9, 1, "c")
	for _, x := range []struct {
		me   int
		disk string
	}{
		{0, moreRecord(a) + moreRecord(b)}, // a head
		{2, moreRecord(a) + moreRecord(b)},
		{0, allRecord(3, a, b)},
		{2, allRecord(3, a, b) + viewRecord(6)},
		{0, allRecord(3, a, b) + viewRecord(6)},
	} {
		for _, lines := range [][]api.Line{nil, {c}, {a, b}, {b, a}, {a, b, c}} {
			for _, view := range []int{7, 10, 100} {
				k := openAs(t, 3, x.me, x.disk)
				hears(t, k, begin(1, view, 1, lines...), to(1, hold(x.me, view, len(lines))))
				wantDisk(t, k, x.disk+allRecord(view, lines...))
				wantState(t, k, view, view, len(lines), min(1, len(lines)))
				hears(t, k, begin(1, view, 0, lines...), to(1, hold(x.me, view, len(lines))))
				wantDisk(t, k, x.disk+allRecord(view, lines...))
			}
		}
	}
}

// A Begin lets a keeper forget what it has heard: in the next view all is to be heard anew.
func TestP9BeginIsHeardOfNothing(t *testing.T) {
	a := line(7, 1, "a")
	for _, view := range []int{6, 8} {
		k := openAs(t, 5, 2, viewRecord(6))
		hears(t, k, change(0, 6))
		hears(t, k, change(3, 6), to(1, yield(2, 6, 0, 0)))
		hears(t, k, begin(view%5, view, 1, a), to(view%5, hold(2, view, 1)))
		for range 4 {
			ticks(t, k)
		}
		ticks(t, k, toEach(change(2, view+1), 0, 1, 3, 4)...)
		ticks(t, k, toEach(change(2, view+1), 0, 1, 3, 4)...)
		hears(t, k, change(0, view+1))
	}
}

// A head that hears of a greater view's Begin follows it.
func TestP9AHeadThatFollows(t *testing.T) {
	a, b := line(7, 1, "a"), line(8, 1, "b")
	k := openAs(t, 3, 0, moreRecord(a))
	hears(t, k, hold(1, 0, 1), told(0, 1, a))
	hears(t, k, begin(1, 1, 0, a, b), to(1, hold(0, 1, 2)))
	wantAgreed(t, k, a)
	hears(t, k, say(line(9, 1, "")))
	ticks(t, k)
	hears(t, k, beat(1, 1, 2), to(1, hold(0, 1, 2)))
	hears(t, k, change(2, 3), toEach(change(0, 3), 1, 2)...)
	hears(t, k, yield(1, 3, 0, 1, a), toEach(begin(0, 3, 2, a, b), 1, 2)...)
	ticks(t, k, toEach(prepare(0, 3, 1, 2, a), 1, 2)...)
}

// A keeper that was opened between views has heard of nothing and has not yielded.
func TestP9OpenedBetweenViews(t *testing.T) {
	a := line(7, 1, "a")
	k := openAs(t, 3, 1, moreRecord(a))
	hears(t, k, yield(0, 1, 1, 0, a), toEach(change(1, 1), 0, 2)...)
	n := openAs(t, 3, 1, string(k.Disk(0)))
	hears(t, n, change(2, 1))
	wantState(t, n, 1, 0, 1, 0)
	hears(t, n, yield(0, 1, 1, 0, a), toEach(begin(1, 1, 1, a), 0, 2)...)
	f := openAs(t, 3, 2, moreRecord(a))
	hears(t, f, change(0, 1), append(toEach(change(2, 1), 0, 1), to(1, yield(2, 1, 0, 0, a)))...)
	f = openAs(t, 3, 2, string(f.Disk(0)))
	ticks(t, f, toEach(change(2, 1), 0, 1)...)
	hears(t, f, change(1, 1), to(1, yield(2, 1, 0, 0, a)))
}

func TestP9AViewOfAllLines(t *testing.T) {
	full := risingLines(20, "eightlet")
	k := openAs(t, 3, 1, viewRecord(100))
	hears(t, k, change(0, 100))
	hears(t, k, yield(2, 100, 20, 99, full...), toEach(begin(1, 100, 20, full...), 0, 2)...)
	wantState(t, openAs(t, 3, 1, string(k.Disk(0))), 100, 100, 20, 0)
	wantAgreed(t, k, full...)
	f := openAs(t, 3, 2, allRecord(99, full...)+viewRecord(100))
	hears(t, f, change(0, 100), to(1, yield(2, 100, 0, 99, full...)))
}
