package parley_test

import (
	"math"
	"testing"

	"parley/api"
	"parley/parley"
)

// A writing: a keeper and a frame at which it writes one record.
type writing struct {
	name, disk string
	me         int
	frame      api.Frame
	record     string
	after      api.State // of who was opened with the record whole
}

func writings() []writing {
	a, b := line(7, 1, "a"), line(9, 99, "eightlet")
	three := record("\x03\x03\x01\x07\x01\x01a")
	return []writing{
		{"a Say", "", 0, say(b), moreRecord(b), api.State{Lines: 1}},
		{"a Say of a later view", three, 0, say(b), moreRecord(b), api.State{View: 3, Last: 3, Lines: 2}},
		{"a Prepare", moreRecord(a), 1, prepare(0, 0, 2, 1, b), moreRecord(b), api.State{Lines: 2}},
		{"a Begin of more lines", moreRecord(a), 2, begin(0, 0, 2, a, b), allRecord(0, a, b), api.State{Lines: 2}},
		{"a Begin between views", moreRecord(a) + viewRecord(4), 2, begin(1, 4, 0), allRecord(4), api.State{View: 4, Last: 4}},
		{"a Begin of a greater view", moreRecord(a), 0, begin(1, 4, 1, b), allRecord(4, b), api.State{View: 4, Last: 4, Lines: 1}},
		{"a Change of a greater view", moreRecord(a), 0, change(1, 100), viewRecord(100), api.State{View: 100, Lines: 1}},
		{"a Change to whom it may yield", moreRecord(a), 2, change(0, 1), viewRecord(1), api.State{View: 1, Lines: 1}},
		{"a Yield of a greater view", allRecord(2, a), 2, yield(1, 5, 1, 2, b), viewRecord(5), api.State{View: 5, Last: 2, Lines: 1}},
	}
}

func TestP5RecordsAreWritten(t *testing.T) {
	for _, w := range writings() {
		k := openAs(t, 3, w.me, w.disk)
		if out, e := k.Heard(packed(t, w.frame)); len(out) == 0 || e != api.OK {
			t.Errorf("%s: %d frames, %d", w.name, len(out), e)
		}
		for _, keep := range []int{math.MinInt, -1, 0, 1, 3, 1000, math.MaxInt} {
			if got := string(k.Disk(keep)); got != w.disk+w.record {
				t.Errorf("P5: %s: Disk(%d): %x, want %x", w.name, keep, got, w.disk+w.record)
			}
		}
	}
}

func TestP5ARecordFails(t *testing.T) {
	for _, w := range writings() {
		k := openAs(t, 3, w.me, w.disk)
		k.Arm(1)
		refuses(t, k, packed(t, w.frame), api.ErrCrash)
		wantDead(t, k)
		wantKept(t, k, w)
	}
}

// wantDead: whatever is done to a dead keeper, it stays dead, and its disk as it is.
func wantDead(t *testing.T, k *parley.Keeper) {
	t.Helper()
	same := unchanged(t, k)
	for _, arm := range []int{0, 1, -1, 5} {
		wantState(t, k, 0, 0, 0, 0)
		wantAgreed(t, k)
		for _, f := range allKinds() {
			refuses(t, k, packed(t, f), api.ErrDead)
		}
		refuses(t, k, nil, api.ErrDead)
		refuses(t, k, []byte("no frame"), api.ErrDead)
		if out, e := k.Tick(); len(out) != 0 || e != api.ErrDead {
			t.Errorf("P5: Tick of a dead keeper: %d frames, %d", len(out), e)
		}
		k.Arm(arm)
		same("it is dead")
	}
}

// wantKept: of the record that failed the disk has what was asked for, and is read with what of it is whole.
func wantKept(t *testing.T, k *parley.Keeper, w writing) {
	t.Helper()
	size := len(w.record)
	for _, keep := range []int{math.MinInt, -2, -1, size + 1, size + 100, 1 << 31, math.MaxInt} {
		want := w.disk
		if keep > 0 {
			want += w.record
		}
		if got := string(k.Disk(keep)); got != want {
			t.Errorf("P5: %s: Disk(%d): %x, want %x", w.name, keep, got, want)
		}
	}
	before := openAs(t, 3, w.me, w.disk).State()
	for keep := range size + 1 {
		got := string(k.Disk(keep))
		if got != w.disk+w.record[:keep] {
			t.Errorf("P5: %s: Disk(%d): %x, want %x", w.name, keep, got, w.disk+w.record[:keep])
		}
		want := before
		if keep == size {
			want = w.after
		}
		again := openAs(t, 3, w.me, got)
		wantState(t, again, want.View, want.Last, want.Lines, 0)
	}
}

// saysUntilItFails: how many lines a head writes till its disk fails, of ten.
func saysUntilItFails(t *testing.T, k *parley.Keeper) int {
	t.Helper()
	for i := range 10 {
		turn := k.State().Lines + 1
		out, e := k.Heard(packed(t, say(line(1, turn, ""))))
		if e == api.ErrCrash && len(out) == 0 {
			return i
		}
		if e != api.OK || len(out) != 2 {
			t.Fatalf("P5: the line %d: %d frames, %d", i, len(out), e)
		}
	}
	return 10
}

func TestP5WhichRecordFails(t *testing.T) {
	for _, c := range []struct {
		arms []int
		want int
	}{
		{nil, 10},
		{[]int{1}, 0},
		{[]int{2}, 1},
		{[]int{7}, 6},
		{[]int{0}, 10},
		{[]int{-1}, 10},
		{[]int{math.MinInt}, 10},
		{[]int{math.MaxInt}, 10},
		{[]int{11}, 10},
		{[]int{2, 5}, 4},
		{[]int{5, 2}, 1},
		{[]int{1, 0}, 10},
		{[]int{1, -1}, 10},
		{[]int{3, 0, 3}, 2},
		{[]int{0, 1}, 0},
	} {
		k := openAs(t, 3, 0, "")
		for _, n := range c.arms {
			k.Arm(n)
		}
		if got := saysUntilItFails(t, k); got != c.want {
			t.Errorf("P5: armed with %v: %d records are written, want %d", c.arms, got, c.want)
		}
	}
}

func TestP5IsCountedFromArmOn(t *testing.T) {
	k := openAs(t, 3, 0, "")
	for turn := 1; turn <= 3; turn++ {
		k.Arm(2)
		hears(t, k, say(line(1, turn, "")), toEach(prepare(0, 0, turn, 0, line(1, turn, "")), 1, 2)...)
	}
	if got := saysUntilItFails(t, k); got != 0 {
		t.Errorf("P5: one record behind Arm(2): %d more are written, want 0", got)
	}
}

// Only records count: neither calls that write nothing nor frames that are refused.
func TestP5OnlyRecordsCount(t *testing.T) {
	a, b := line(1, 1, ""), line(1, 2, "")
	k := openAs(t, 3, 0, "")
	hears(t, k, say(a), toEach(prepare(0, 0, 1, 0, a), 1, 2)...)
	k.Arm(1)
	hears(t, k, say(a))
	hears(t, k, hold(1, 0, 1), told(0, 1, a))
	hears(t, k, lag(1, 0), to(1, begin(0, 0, 1, a)))
	ticks(t, k, to(1, beat(0, 0, 1)), to(2, prepare(0, 0, 1, 1, a)))
	refuses(t, k, []byte("no frame"), api.ErrFrame)
	refuses(t, k, packed(t, hold(0, 0, 1)), api.ErrFrame)
	k.Disk(5)
	k.State()
	refuses(t, k, packed(t, say(b)), api.ErrCrash)
	f := openAs(t, 3, 1, moreRecord(a))
	f.Arm(1)
	hears(t, f, prepare(0, 0, 1, 0, a), to(0, hold(1, 0, 1)))
	hears(t, f, prepare(0, 0, 2, 0, a))
	hears(t, f, begin(0, 0, 0, a), to(0, hold(1, 0, 1)))
	refuses(t, f, packed(t, prepare(0, 0, 2, 0, b)), api.ErrCrash)
}

// A keeper that is opened anew is not armed, and has nothing of a record that was torn.
func TestP5OpenedAfterACrash(t *testing.T) {
	a, b := line(7, 1, "a"), line(8, 1, "b")
	k := openAs(t, 3, 0, "")
	hears(t, k, say(a), toEach(prepare(0, 0, 1, 0, a), 1, 2)...)
	hears(t, k, hold(2, 0, 1), told(0, 1, a))
	k.Arm(1)
	refuses(t, k, packed(t, say(b)), api.ErrCrash)
	n := openAs(t, 3, 0, string(k.Disk(4)))
	wantState(t, n, 0, 0, 1, 0)
	hears(t, n, say(b), toEach(prepare(0, 0, 2, 0, b), 1, 2)...)
	wantDisk(t, n, moreRecord(a)+moreRecord(b))
	wantDisk(t, k, moreRecord(a))
}

// yielding: the keeper 1 of 3, between views, that has heard all but what lets view 4 begin.
func yielding(t *testing.T, last api.Frame) *parley.Keeper {
	t.Helper()
	k := openAs(t, 3, 1, moreRecord(line(7, 1, "a"))+viewRecord(4))
	if last.Kind == api.Yield {
		hears(t, k, change(0, 4))
	} else {
		hears(t, k, yield(0, 4, 1, 0, line(7, 1, "a"), line(8, 1, "b")))
	}
	return k
}

// The record of a view that begins by what was heard, be it a Yield or a Change that comes last.
func TestP5AViewThatBeginsFails(t *testing.T) {
	a, b := line(7, 1, "a"), line(8, 1, "b")
	for _, last := range []api.Frame{yield(2, 4, 1, 0, a, b), change(2, 4)} {
		w := writing{"a view that begins", moreRecord(a) + viewRecord(4), 1, last, allRecord(4, a, b), api.State{View: 4, Last: 4, Lines: 2}}
		k := yielding(t, last)
		hears(t, k, last, toEach(begin(1, 4, 1, a, b), 0, 2)...)
		wantDisk(t, k, w.disk+w.record)
		k = yielding(t, last)
		k.Arm(1)
		refuses(t, k, packed(t, last), api.ErrCrash)
		wantDead(t, k)
		wantKept(t, k, w)
	}
}

func TestP5ATickThatFails(t *testing.T) {
	a := line(7, 1, "a")
	for _, disk := range []string{moreRecord(a), allRecord(6, a), moreRecord(a) + viewRecord(6), allRecord(6, a) + viewRecord(8)} {
		before := openAs(t, 3, 1, disk).State()
		k := openPatient(t, 3, 1, 2, disk)
		k.Arm(1)
		tickUnseen(t, k)
		if out, e := k.Tick(); len(out) != 0 || e != api.ErrCrash {
			t.Errorf("P5: a Tick whose record fails: %d frames, %d", len(out), e)
		}
		wantDead(t, k)
		after := before
		after.View++
		wantKept(t, k, writing{"a Tick", disk, 1, api.Frame{}, viewRecord(after.View), after})
	}
}

// The records of ticks count too, and only those that are written.
func TestP5WhichRecordOfTicksFails(t *testing.T) {
	k := openPatient(t, 3, 2, 2, "")
	k.Arm(3)
	for view := 1; view <= 2; view++ {
		tickUnseen(t, k)
		ticks(t, k, toEach(change(2, view), 0, 1)...)
	}
	tickUnseen(t, k)
	hears(t, k, change(0, 1), to(0, change(2, 2)))
	if out, e := k.Tick(); len(out) != 0 || e != api.ErrCrash {
		t.Errorf("P5: the third record: %d frames, %d", len(out), e)
	}
	last := openPatient(t, 3, 2, 2, viewRecord(100))
	last.Arm(1)
	for range 9 {
		tickUnseen(t, last) // no view is written above 100
	}
	refuses(t, last, packed(t, begin(1, 100, 0)), api.ErrCrash)
}

// Who falls when it has changed is between views when it comes back, and takes part in no earlier view.
func TestP5AViewIsNotForgotten(t *testing.T) {
	a, b := line(7, 1, "a"), line(8, 1, "b")
	k := openAs(t, 3, 2, moreRecord(a))
	hears(t, k, change(0, 1), append(toEach(change(2, 1), 0, 1), to(1, yield(2, 1, 0, 0, a)))...)
	k.Arm(1)
	refuses(t, k, packed(t, change(0, 2)), api.ErrCrash)
	n := openAs(t, 3, 2, string(k.Disk(2)))
	wantState(t, n, 1, 0, 1, 0)
	hears(t, n, prepare(0, 0, 2, 0, b), to(0, change(2, 1)))
	wantState(t, n, 1, 0, 1, 0)
}
