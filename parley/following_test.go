package parley_test

import (
	"testing"

	"parley/api"
)

func TestP9PrepareOfTheNextPlace(t *testing.T) {
	a, b, c := line(7, 1, "a"), line(8, 99, "eightlet"), line(7, 3, "")
	k := openAs(t, 3, 1, "")
	hears(t, k, prepare(0, 0, 1, 0, a), to(0, hold(1, 0, 1)))
	wantDisk(t, k, moreRecord(a))
	wantState(t, k, 0, 0, 1, 0)
	hears(t, k, prepare(0, 0, 2, 1, b), to(0, hold(1, 0, 2)))
	wantState(t, k, 0, 0, 2, 1)
	hears(t, k, prepare(0, 0, 3, 20, c), to(0, hold(1, 0, 3))) // Agreed is not above its lines
	wantState(t, k, 0, 0, 3, 3)
	wantAgreed(t, k, a, b, c)
	wantDisk(t, k, moreRecord(a)+moreRecord(b)+moreRecord(c))
}

func TestP9PrepareOfAPlaceThatIsThere(t *testing.T) {
	a, b := line(7, 1, "a"), line(8, 1, "b")
	k := openAs(t, 3, 2, moreRecord(a)+moreRecord(b))
	hears(t, k, prepare(0, 0, 1, 0, a), to(0, hold(2, 0, 2)))
	wantState(t, k, 0, 0, 2, 0)
	hears(t, k, prepare(0, 0, 2, 1, b), to(0, hold(2, 0, 2)))
	wantAgreed(t, k, a)
	hears(t, k, prepare(0, 0, 1, 0, a), to(0, hold(2, 0, 2)))
	wantAgreed(t, k, a) // the greater one of the two
	hears(t, k, prepare(0, 0, 1, 9, line(9, 9, "else")), to(0, hold(2, 0, 2)))
	wantAgreed(t, k, a, b)
	wantDisk(t, k, moreRecord(a)+moreRecord(b))
}

func TestP9PrepareOfATurnThatDoesNotRise(t *testing.T) {
	a, b := line(7, 2, "a"), line(8, 1, "b")
	k := openAs(t, 3, 1, moreRecord(a)+moreRecord(b))
	hears(t, k, beat(0, 0, 1), to(0, hold(1, 0, 2)))
	same := unchanged(t, k)
	for _, l := range []api.Line{a, line(7, 2, "else"), line(7, 1, ""), b} {
		hears(t, k, prepare(0, 0, 3, 2, l))
		same("a Prepare of a turn that does not rise")
	}
	hears(t, k, prepare(0, 0, 3, 0, line(7, 3, "")), to(0, hold(1, 0, 3)))
	wantState(t, k, 0, 0, 3, 1)
}

func TestP9PrepareBeyond(t *testing.T) {
	a := line(7, 1, "a")
	for _, disk := range []string{"", moreRecord(a)} {
		k := openAs(t, 3, 1, disk)
		lines := k.State().Lines
		same := unchanged(t, k)
		for place := lines + 2; place <= 20; place++ {
			hears(t, k, prepare(0, 0, place, 20, line(8, 1, "")), to(0, lag(1, 0)))
			hears(t, k, prepare(0, 0, place, 0, a), to(0, lag(1, 0)))
			same("a Prepare beyond the next place")
		}
	}
}

func TestP9PrepareOfTheLastPlace(t *testing.T) {
	k := openAs(t, 5, 4, allRecord(0, risingLines(19, "eightlet")...))
	hears(t, k, prepare(0, 0, 20, 20, line(2, 1, "eightlet")), to(0, hold(4, 0, 20)))
	wantState(t, k, 0, 0, 20, 20)
	hears(t, k, prepare(0, 0, 20, 20, line(3, 1, "")), to(0, hold(4, 0, 20)))
	wantState(t, k, 0, 0, 20, 20)
}

func TestP9Beat(t *testing.T) {
	a, b := line(7, 1, "a"), line(8, 1, "b")
	k := openAs(t, 3, 1, "")
	hears(t, k, beat(0, 0, 0), to(0, hold(1, 0, 0)))
	hears(t, k, beat(0, 0, 1), to(0, lag(1, 0)))
	wantState(t, k, 0, 0, 0, 0)
	disk := moreRecord(a) + moreRecord(b)
	k = openAs(t, 3, 1, disk)
	hears(t, k, beat(0, 0, 3), to(0, lag(1, 0)))
	hears(t, k, beat(0, 0, 20), to(0, lag(1, 0)))
	wantState(t, k, 0, 0, 2, 0) // nothing of it is taken
	hears(t, k, beat(0, 0, 0), to(0, hold(1, 0, 2)))
	wantAgreed(t, k)
	hears(t, k, beat(0, 0, 1), to(0, hold(1, 0, 2)))
	wantAgreed(t, k, a)
	hears(t, k, beat(0, 0, 0), to(0, hold(1, 0, 2)))
	wantAgreed(t, k, a)
	hears(t, k, beat(0, 0, 2), to(0, hold(1, 0, 2)))
	wantAgreed(t, k, a, b)
	wantDisk(t, k, disk)
}

func TestP9BeginOfMoreLines(t *testing.T) {
	a, b, c := line(7, 1, "a"), line(8, 1, "b"), line(9, 1, "c")
	k := openAs(t, 3, 1, "")
	hears(t, k, begin(0, 0, 1, a, b), to(0, hold(1, 0, 2)))
	wantState(t, k, 0, 0, 2, 1)
	disk := allRecord(0, a, b)
	wantDisk(t, k, disk)
	for _, f := range []api.Frame{begin(0, 0, 0, a, b), begin(0, 0, 0, a), begin(0, 0, 0)} {
		hears(t, k, f, to(0, hold(1, 0, 2)))
		wantDisk(t, k, disk)
		wantState(t, k, 0, 0, 2, 1)
	}
	hears(t, k, begin(0, 0, 9, a), to(0, hold(1, 0, 2)))
	wantAgreed(t, k, a, b)
	wantDisk(t, k, disk)
	hears(t, k, begin(0, 0, 0, a, b, c), to(0, hold(1, 0, 3)))
	wantDisk(t, k, disk+allRecord(0, a, b, c))
	wantAgreed(t, k, a, b)
	full := append([]api.Line{a, b, c}, risingLines(17, "eightlet")...)
	hears(t, k, begin(0, 0, 20, full...), to(0, hold(1, 0, 20)))
	wantAgreed(t, k, full...)
	wantState(t, openAs(t, 3, 1, string(k.Disk(0))), 0, 0, 20, 0)
}

// Who is between views takes the lines of its view, be they more or fewer than its own.
func TestP9BeginBetweenViews(t *testing.T) {
	a, b, c := line(7, 1, "a"), line(8, 1, "b"), line(9, 1, "c")
	disk := moreRecord(a) + moreRecord(b) + viewRecord(4)
	for _, lines := range [][]api.Line{nil, {c}, {a, b}, {c, b}, {a, b, c}} {
		for _, agreed := range []int{0, 1, 2, 20} {
			k := openAs(t, 3, 0, disk)
			wantState(t, k, 4, 0, 2, 0)
			hears(t, k, begin(1, 4, agreed, lines...), to(1, hold(0, 4, len(lines))))
			wantDisk(t, k, disk+allRecord(4, lines...))
			wantState(t, k, 4, 4, len(lines), min(agreed, len(lines)))
			wantAgreed(t, k, lines[:min(agreed, len(lines))]...)
			hears(t, k, begin(1, 4, 0, lines...), to(1, hold(0, 4, len(lines))))
			wantDisk(t, k, disk+allRecord(4, lines...))
			hears(t, k, beat(1, 4, 0), to(1, hold(0, 4, len(lines))))
		}
	}
}

// Clients are told by the head alone.
func TestP9NoClientIsTold(t *testing.T) {
	a := line(7, 1, "a")
	k := openAs(t, 3, 1, "")
	hears(t, k, prepare(0, 0, 1, 1, a), to(0, hold(1, 0, 1)))
	hears(t, k, hold(2, 0, 1))
	hears(t, k, say(a))
	wantState(t, k, 0, 0, 1, 1)
}
