package parley_test

import (
	"math"
	"testing"

	"parley/api"
	"parley/parley"
)

// A writing: a keeper and a frame at which it writes one record.
type writing struct {
	name, disk string
	me         int
	frame      api.Frame
	record     string
	after      api.State // of who was opened with the record whole
}

func writings() []writing {
	a, b := line(7, 1, "a"), line(9, 99, "eightlet")
	three := record("\x03\x03\x01\x07\x01\x01a")
	return []writing{
		{"a Say", "", 0, say(b), moreRecord(b), api.State{Lines: 1}},
		{"a Say of a later view", three, 0, say(b), moreRecord(b), api.State{View: 3, Last: 3, Lines: 2}},
		{"a Prepare", moreRecord(a), 1, prepare(0, 0, 2, 1, b), moreRecord(b), api.State{Lines: 2}},
		{"a Begin of more lines", moreRecord(a), 2, begin(0, 0, 2, a, b), allRecord(0, a, b), api.State{Lines: 2}},
		{"a Begin between views", moreRecord(a) + viewRecord(4), 2, begin(1, 4, 0), allRecord(4), api.State{View: 4, Last: 4}},
	}
}

func TestP5RecordsAreWritten(t *testing.T) {
	for _, w := range writings() {
		k := openAs(t, 3, w.me, w.disk)
		if out, e := k.Heard(packed(t, w.frame)); len(out) == 0 || e != api.OK {
			t.Errorf("%s: %d frames, %d", w.name, len(out), e)
		}
		for _, keep := range []int{math.MinInt, -1, 0, 1, 3, 1000, math.MaxInt} {
			if got := string(k.Disk(keep)); got != w.disk+w.record {
				t.Errorf("P5: %s: Disk(%d): %x, want %x", w.name, keep, got, w.disk+w.record)
			}
		}
	}
}

func TestP5ARecordFails(t *testing.T) {
	for _, w := range writings() {
		k := openAs(t, 3, w.me, w.disk)
		k.Arm(1)
		refuses(t, k, packed(t, w.frame), api.ErrCrash)
		wantDead(t, k)
		wantKept(t, k, w)
	}
}

// wantDead: whatever is done to a dead keeper, it stays dead, and its disk as it is.
func wantDead(t *testing.T, k *parley.Keeper) {
	t.Helper()
	same := unchanged(t, k)
	for _, arm := range []int{0, 1, -1, 5} {
		wantState(t, k, 0, 0, 0, 0)
		wantAgreed(t, k)
		for _, f := range allKinds() {
			refuses(t, k, packed(t, f), api.ErrDead)
		}
		refuses(t, k, nil, api.ErrDead)
		refuses(t, k, []byte("no frame"), api.ErrDead)
		if out, e := k.Tick(); len(out) != 0 || e != api.ErrDead {
			t.Errorf("P5: Tick of a dead keeper: %d frames, %d", len(out), e)
		}
		k.Arm(arm)
		same("it is dead")
	}
}

// wantKept: of the record that failed the disk has what was asked for, and is read with what of it is whole.
func wantKept(t *testing.T, k *parley.Keeper, w writing) {
	t.Helper()
	size := len(w.record)
	for _, keep := range []int{math.MinInt, -2, -1, size + 1, size + 100, 1 << 31, math.MaxInt} {
		want := w.disk
		if keep > 0 {
			want += w.record
		}
		if got := string(k.Disk(keep)); got != want {
			t.Errorf("P5: %s: Disk(%d): %x, want %x", w.name, keep, got, want)
		}
	}
	before := openAs(t, 3, w.me, w.disk).State()
	for keep := range size + 1 {
		got := string(k.Disk(keep))
		if got != w.disk+w.record[:keep] {
			t.Errorf("P5: %s: Disk(%d): %x, want %x", w.name, keep, got, w.disk+w.record[:keep])
		}
		want := before
		if keep == size {
			want = w.after
		}
		again := openAs(t, 3, w.me, got)
		wantState(t, again, want.View, want.Last, want.Lines, 0)
	}
}

// saysUntilItFails: how many lines a head writes till its disk fails, of ten.
func saysUntilItFails(t *testing.T, k *parley.Keeper) int {
	t.Helper()
	for i := range 10 {
		turn := k.State().Lines + 1
		out, e := k.Heard(packed(t, say(line(1, turn, ""))))
		if e == api.ErrCrash && len(out) == 0 {
			return i
		}
		if e != api.OK || len(out) != 2 {
			t.Fatalf("P5: the line %d: %d frames, %d", i, len(out), e)
		}
	}
	return 10
}

func TestP5WhichRecordFails(t *testing.T) {
	for _, c := range []struct {
		arms []int
		want int
	}{
		{nil, 10},
		{[]int{1}, 0},
		{[]int{2}, 1},
		{[]int{7}, 6},
		{[]int{0}, 10},
		{[]int{-1}, 10},
		{[]int{math.MinInt}, 10},
		{[]int{math.MaxInt}, 10},
		{[]int{11}, 10},
		{[]int{2, 5}, 4},
		{[]int{5, 2}, 1},
		{[]int{1, 0}, 10},
		{[]int{1, -1}, 10},
		{[]int{3, 0, 3}, 2},
		{[]int{0, 1}, 0},
	} {
		k := openAs(t, 3, 0, "")
		for _, n := range c.arms {
			k.Arm(n)
		}
		if got := saysUntilItFails(t, k); got != c.want {
			t.Errorf("P5: armed with %v: %d records are written, want %d", c.arms, got, c.want)
		}
	}
}

func TestP5IsCountedFromArmOn(t *testing.T) {
	k := openAs(t, 3, 0, "")
	for turn := 1; turn <= 3; turn++ {
		k.Arm(2)
		hears(t, k, say(line(1, turn, "")), toEach(prepare(0, 0, turn, 0, line(1, turn, "")), 1, 2)...)
	}
	if got := saysUntilItFails(t, k); got != 0 {
		t.Errorf("P5: one record behind Arm(2): %d more are written, want 0", got)
	}
}

// Only records count: neither calls that write nothing nor frames that are refused.
func TestP5OnlyRecordsCount(t *testing.T) {
	a, b := line(1, 1, ""), line(1, 2, "")
	k := openAs(t, 3, 0, "")
	hears(t, k, say(a), toEach(prepare(0, 0, 1, 0, a), 1, 2)...)
	k.Arm(1)
	hears(t, k, say(a))
	hears(t, k, hold(1, 0, 1), told(0, 1, a))
	hears(t, k, lag(1, 0), to(1, begin(0, 0, 1, a)))
	ticks(t, k, to(1, beat(0, 0, 1)), to(2, prepare(0, 0, 1, 1, a)))
	refuses(t, k, []byte("no frame"), api.ErrFrame)
	refuses(t, k, packed(t, hold(0, 0, 1)), api.ErrFrame)
	k.Disk(5)
	k.State()
	refuses(t, k, packed(t, say(b)), api.ErrCrash)
	f := openAs(t, 3, 1, moreRecord(a))
	f.Arm(1)
	hears(t, f, prepare(0, 0, 1, 0, a), to(0, hold(1, 0, 1)))
	hears(t, f, prepare(0, 0, 2, 0, a))
	hears(t, f, begin(0, 0, 0, a), to(0, hold(1, 0, 1)))
	refuses(t, f, packed(t, prepare(0, 0, 2, 0, b)), api.ErrCrash)
}

// A keeper that is opened anew is not armed, and has nothing of a record that was torn.
func TestP5OpenedAfterACrash(t *testing.T) {
	a, b := line(7, 1, "a"), line(8, 1, "b")
	k := openAs(t, 3, 0, "")
	hears(t, k, say(a), toEach(prepare(0, 0, 1, 0, a), 1, 2)...)
	hears(t, k, hold(2, 0, 1), told(0, 1, a))
	k.Arm(1)
	refuses(t, k, packed(t, say(b)), api.ErrCrash)
	n := openAs(t, 3, 0, string(k.Disk(4)))
	wantState(t, n, 0, 0, 1, 0)
	hears(t, n, say(b), toEach(prepare(0, 0, 2, 0, b), 1, 2)...)
	wantDisk(t, n, moreRecord(a)+moreRecord(b))
	wantDisk(t, k, moreRecord(a))
}
