package parley_test

import (
	"testing"

	"parley/api"
	"parley/parley"
)

// The document's example, word for word.
func TestP5ToP10Example(t *testing.T) {
	a := line(7, 1, "a")
	k := openAs(t, 3, 0, "")
	hears(t, k, say(a), toEach(prepare(0, 0, 1, 0, a), 1, 2)...)
	wantDisk(t, k, checked("\x05\x01\x07\x01\x01\x61"))
	hears(t, k, hold(1, 0, 1), told(0, 1, a))
	ticks(t, k, to(1, beat(0, 0, 1)), to(2, prepare(0, 0, 1, 1, a)))
}

func TestP7ALineIsWrittenAndPrepared(t *testing.T) {
	lines := []api.Line{line(1, 1, ""), line(9, 99, "eightlet"), line(1, 2, "\x00\xff"), line(5, 50, "x"), line(1, 99, "")}
	for _, c := range []struct {
		keepers, me int
		others      []int
	}{
		{3, 0, []int{1, 2}},
		{3, 1, []int{0, 2}},
		{3, 2, []int{0, 1}},
		{5, 0, []int{1, 2, 3, 4}},
		{5, 3, []int{0, 1, 2, 4}},
		{5, 4, []int{0, 1, 2, 3}},
	} {
		disk := allRecord(c.me)
		k := openAs(t, c.keepers, c.me, disk)
		for i, l := range lines {
			hears(t, k, say(l), toEach(prepare(c.me, c.me, i+1, 0, l), c.others...)...)
			disk += moreRecord(l)
			wantDisk(t, k, disk)
			wantState(t, k, c.me, c.me, i+1, 0)
			wantAgreed(t, k)
		}
	}
}

func TestP7PrepareHasAgreed(t *testing.T) {
	a, b, c := line(7, 1, "a"), line(7, 2, "b"), line(8, 1, "c")
	k := openAs(t, 3, 0, moreRecord(a)+moreRecord(b))
	hears(t, k, hold(1, 0, 1), told(0, 1, a))
	hears(t, k, say(c), toEach(prepare(0, 0, 3, 1, c), 1, 2)...)
	hears(t, k, hold(2, 0, 3), told(0, 2, b), told(0, 3, c))
	hears(t, k, say(line(9, 1, "d")), toEach(prepare(0, 0, 4, 3, line(9, 1, "d")), 1, 2)...)
}

func TestP7WhoIsNotTheHead(t *testing.T) {
	a := line(7, 1, "a")
	for _, c := range []struct {
		me   int
		disk string
	}{
		{1, ""}, {2, ""}, {0, allRecord(1)}, {0, viewRecord(3)}, {1, viewRecord(1)}, {0, viewRecord(1)}, {2, allRecord(2, a) + viewRecord(5)},
	} {
		k := openAs(t, 3, c.me, c.disk)
		same := unchanged(t, k)
		hears(t, k, say(a))
		hears(t, k, say(line(9, 9, "")))
		same("a Say to who is not the head")
	}
}

func TestP7ATurnThatDoesNotRise(t *testing.T) {
	first, third, other := line(7, 1, "a"), line(7, 3, "c"), line(8, 2, "b")
	k := openAs(t, 3, 0, moreRecord(first)+moreRecord(other)+moreRecord(third))
	hears(t, k, hold(1, 0, 2), told(0, 1, first), told(0, 2, other))
	same := unchanged(t, k)
	hears(t, k, say(first), told(0, 1, first))
	hears(t, k, say(line(7, 1, "else")), told(0, 1, first))
	hears(t, k, say(other), told(0, 2, other))
	hears(t, k, say(line(7, 2, ""))) // between two that are there
	hears(t, k, say(line(8, 1, ""))) // below all that are there
	hears(t, k, say(third))          // there, and not agreed
	same("a Say of a turn that does not rise")
	hears(t, k, hold(2, 0, 3), told(0, 3, third))
	hears(t, k, say(third), told(0, 3, third))
	hears(t, k, say(line(8, 3, "")), toEach(prepare(0, 0, 4, 3, line(8, 3, "")), 1, 2)...)
}

// One client's turns say nothing about another's.
func TestP7ClientsAreApart(t *testing.T) {
	k := openAs(t, 3, 0, moreRecord(line(7, 99, "")))
	for i, client := range []int{1, 6, 8, 9} {
		l := line(client, 1, "")
		hears(t, k, say(l), toEach(prepare(0, 0, i+2, 0, l), 1, 2)...)
	}
	hears(t, k, say(line(7, 98, "")))
}

// fullHead: a head with as many lines as there may be.
func fullHead(t *testing.T) *parley.Keeper {
	t.Helper()
	k := openAs(t, 3, 0, "")
	for turn := 1; turn <= 20; turn++ {
		l := line(1, turn, "eightlet")
		hears(t, k, say(l), toEach(prepare(0, 0, turn, 0, l), 1, 2)...)
	}
	return k
}

func TestP7NoRoom(t *testing.T) {
	k := fullHead(t)
	same := unchanged(t, k)
	hears(t, k, say(line(1, 21, "")))
	hears(t, k, say(line(2, 1, "")))
	hears(t, k, say(line(1, 20, "")))
	same("a Say where there is no room")
	hears(t, k, hold(2, 0, 19), allTold(1, 19)...)
	hears(t, k, say(line(2, 1, "")))
	hears(t, k, say(line(1, 19, "")), told(0, 19, line(1, 19, "")))
	hears(t, k, say(line(1, 20, "")))
	hears(t, k, hold(2, 0, 20), allTold(20, 20)...)
	hears(t, k, say(line(1, 20, "")), told(0, 20, line(1, 20, "")))
	hears(t, k, say(line(1, 21, "")))
	wantState(t, k, 0, 0, 20, 20)
}

func allTold(first, last int) []parcel {
	var all []parcel
	for place := first; place <= last; place++ {
		all = append(all, told(0, place, line(1, place, "")))
	}
	return all
}

func TestP9Hold(t *testing.T) {
	a, b, c := line(7, 1, "a"), line(8, 1, "b"), line(7, 2, "c")
	disk := moreRecord(a) + moreRecord(b) + moreRecord(c)
	k := openAs(t, 3, 0, disk)
	hears(t, k, hold(1, 0, 0))
	hears(t, k, hold(1, 0, 4))  // above the lines
	hears(t, k, hold(1, 0, 20)) // far above
	wantState(t, k, 0, 0, 3, 0)
	hears(t, k, hold(1, 0, 1), told(0, 1, a))
	wantAgreed(t, k, a)
	hears(t, k, hold(1, 0, 1))
	hears(t, k, hold(2, 0, 1))
	hears(t, k, hold(2, 0, 3), told(0, 2, b), told(0, 3, c))
	wantAgreed(t, k, a, b, c)
	hears(t, k, hold(1, 0, 2))
	hears(t, k, hold(2, 0, 1)) // less than so far: it still holds all
	wantState(t, k, 0, 0, 3, 3)
	ticks(t, k, to(1, prepare(0, 0, 3, 3, c)), to(2, beat(0, 0, 3)))
	wantDisk(t, k, disk)
}

// A Hold above the lines says nothing, also when the lines have come there later.
func TestP9HoldAboveTheLinesIsForgotten(t *testing.T) {
	a, b := line(7, 1, "a"), line(8, 1, "b")
	k := openAs(t, 3, 0, moreRecord(a))
	hears(t, k, hold(1, 0, 2))
	hears(t, k, say(b), toEach(prepare(0, 0, 2, 0, b), 1, 2)...)
	hears(t, k, hold(1, 0, 0))
	wantState(t, k, 0, 0, 2, 0)
	ticks(t, k, toEach(prepare(0, 0, 1, 0, a), 1, 2)...)
}

func TestP9FewOfFive(t *testing.T) {
	a, b, c := line(7, 1, "a"), line(8, 1, "b"), line(9, 1, "c")
	k := openAs(t, 5, 2, allRecord(2, a, b, c))
	hears(t, k, hold(4, 2, 3))
	hears(t, k, hold(4, 2, 3))
	wantState(t, k, 2, 2, 3, 0)
	hears(t, k, hold(0, 2, 1), told(2, 1, a))
	hears(t, k, hold(1, 2, 1))
	hears(t, k, hold(3, 2, 2), told(2, 2, b))
	hears(t, k, hold(1, 2, 2))
	hears(t, k, hold(0, 2, 2))
	hears(t, k, hold(0, 2, 3), told(2, 3, c))
	wantAgreed(t, k, a, b, c)
	ticks(t, k, to(0, beat(2, 2, 3)), to(1, prepare(2, 2, 3, 3, c)), to(3, prepare(2, 2, 3, 3, c)), to(4, beat(2, 2, 3)))
}

// A head that was opened anew knows of nobody how far it holds.
func TestP9OpenedAnew(t *testing.T) {
	a, b := line(7, 1, "a"), line(8, 1, "b")
	k := openAs(t, 3, 0, moreRecord(a)+moreRecord(b))
	hears(t, k, hold(1, 0, 2), told(0, 1, a), told(0, 2, b))
	n := openAs(t, 3, 0, string(k.Disk(0)))
	wantState(t, n, 0, 0, 2, 0)
	hears(t, n, say(a))
	ticks(t, n, toEach(prepare(0, 0, 1, 0, a), 1, 2)...)
	hears(t, n, hold(2, 0, 1), told(0, 1, a))
}

func TestP9TheHeadTellsAll(t *testing.T) {
	a, b := line(7, 1, "a"), line(8, 1, "b")
	k := openAs(t, 3, 0, "")
	hears(t, k, lag(2, 0), to(2, begin(0, 0, 0)))
	hears(t, k, say(a), toEach(prepare(0, 0, 1, 0, a), 1, 2)...)
	hears(t, k, say(b), toEach(prepare(0, 0, 2, 0, b), 1, 2)...)
	hears(t, k, hold(1, 0, 1), told(0, 1, a))
	same := unchanged(t, k)
	hears(t, k, lag(1, 0), to(1, begin(0, 0, 1, a, b)))
	hears(t, k, lag(2, 0), to(2, begin(0, 0, 1, a, b)))
	hears(t, k, change(2, 0), to(2, begin(0, 0, 1, a, b)))
	hears(t, k, yield(1, 0, 20, 100, line(9, 1, "")), to(1, begin(0, 0, 1, a, b)))
	same("the head tells all")
	ticks(t, k, to(1, prepare(0, 0, 2, 1, b)), to(2, prepare(0, 0, 1, 1, a)))
	full := fullHead(t)
	hears(t, full, lag(1, 0), to(1, begin(0, 0, 0, risingLines(20, "eightlet")...)))
}

func TestP10TheHeadsTick(t *testing.T) {
	a, b := line(7, 1, "a"), line(8, 1, "b")
	k := openAs(t, 3, 0, "")
	for range 30 {
		ticks(t, k, toEach(beat(0, 0, 0), 1, 2)...)
	}
	hears(t, k, say(a), toEach(prepare(0, 0, 1, 0, a), 1, 2)...)
	hears(t, k, say(b), toEach(prepare(0, 0, 2, 0, b), 1, 2)...)
	for range 30 {
		ticks(t, k, toEach(prepare(0, 0, 1, 0, a), 1, 2)...)
	}
	hears(t, k, hold(2, 0, 1), told(0, 1, a))
	ticks(t, k, to(1, prepare(0, 0, 1, 1, a)), to(2, prepare(0, 0, 2, 1, b)))
	hears(t, k, hold(1, 0, 2), told(0, 2, b))
	ticks(t, k, to(1, beat(0, 0, 2)), to(2, prepare(0, 0, 2, 2, b)))
	hears(t, k, hold(2, 0, 2))
	ticks(t, k, toEach(beat(0, 0, 2), 1, 2)...)
	wantState(t, k, 0, 0, 2, 2)
	wantDisk(t, k, moreRecord(a)+moreRecord(b))
}

func TestP10TheHeadsTickAtTheLastPlace(t *testing.T) {
	k := fullHead(t)
	hears(t, k, hold(1, 0, 19), allTold(1, 19)...)
	hears(t, k, hold(2, 0, 20), allTold(20, 20)...)
	ticks(t, k, to(1, prepare(0, 0, 20, 20, line(1, 20, "eightlet"))), to(2, beat(0, 0, 20)))
	five := openAs(t, 5, 0, allRecord(100, line(7, 1, "a")))
	ticks(t, five, toEach(prepare(0, 100, 1, 0, line(7, 1, "a")), 1, 2, 3, 4)...)
}
