package parley_test

import (
	"bytes"
	"math/rand"
	"reflect"
	"slices"
	"testing"

	"parley/api"
	"parley/parley"
)

func TestP2HeardLeavesWhatIsHandedIn(t *testing.T) {
	a, b := line(7, 1, "a"), line(8, 1, "eightlet")
	for _, c := range []struct {
		me    int
		disk  string
		frame api.Frame
	}{
		{0, "", say(b)},
		{1, moreRecord(a), prepare(0, 0, 2, 2, b)},
		{1, moreRecord(a), begin(0, 0, 2, a, b)},
		{1, viewRecord(3), begin(0, 3, 2, a, b)},
		{1, moreRecord(a), begin(0, 3, 2, a, b)},
		{1, moreRecord(a), yield(0, 1, 2, 0, a, b)},
	} {
		k := openAs(t, 3, c.me, c.disk)
		whole, part := withSpare(packed(t, c.frame), 0xee)
		was := string(whole)
		if _, e := k.Heard(part); e != api.OK || string(whole) != was {
			t.Errorf("P2: Heard has written into the bytes: %x, were %x, %d", whole, was, e)
		}
		same := unchanged(t, k)
		scribble(whole, 0x11)
		same("what was handed in is written into")
	}
}

// What came out may be written into, its spare room too: neither the keeper nor the other answers see it.
func TestP2WhatIsSentIsApart(t *testing.T) {
	a, b := line(7, 1, "a"), line(8, 1, "b")
	k := openAs(t, 5, 0, moreRecord(a))
	twin := openAs(t, 5, 0, moreRecord(a))
	for _, f := range []api.Frame{say(b), lag(1, 0), hold(1, 0, 2), hold(2, 0, 2), say(a), lag(2, 0)} {
		out, _ := k.Heard(packed(t, f))
		want, _ := twin.Heard(packed(t, f))
		wantOutsApart(t, out, want)
	}
	for range 3 {
		out, _ := k.Tick()
		want, _ := twin.Tick()
		wantOutsApart(t, out, want)
		scribble(k.Agreed(), line(5, 55, "mark"))
		scribble(k.Disk(0), 0xee)
	}
	wantAgreed(t, k, a, b)
	wantDisk(t, k, moreRecord(a)+moreRecord(b))
}

// A Yield is kept till a view begins: not its bytes, though.
func TestP2AYieldIsKeptApart(t *testing.T) {
	a, b := line(7, 1, "eightlet"), line(8, 1, "b")
	k := openAs(t, 3, 1, "")
	bytes := packed(t, yield(0, 1, 2, 0, a, b))
	if out, e := k.Heard(bytes); len(out) != 2 || e != api.OK {
		t.Errorf("P8: a Yield: %d frames, %d", len(out), e)
	}
	scribble(bytes, 0x11)
	hears(t, k, change(0, 1), toEach(begin(1, 1, 2, a, b), 0, 2)...)
	wantAgreed(t, k, a, b)
}

func TestP2WhatIsSentBetweenViewsIsApart(t *testing.T) {
	a, b := line(7, 1, "a"), line(8, 1, "b")
	for me := range 5 {
		k, twin := openPatient(t, 5, me, 3, moreRecord(a)), openPatient(t, 5, me, 3, moreRecord(a))
		for _, from := range othersOfFive(me) {
			for _, f := range []api.Frame{beat(0, 0, 1), change(from, 1), yield(from, 1, 1, 0, a, b), lag(from, 1), change(from, 2)} {
				out, e := k.Heard(packed(t, f))
				want, again := twin.Heard(packed(t, f))
				if len(out) != len(want) || e != again {
					t.Fatalf("P2: twins send %d frames, %d and %d, %d", len(out), e, len(want), again)
				}
				wantOutsApart(t, out, want)
				out, _ = k.Tick()
				want, _ = twin.Tick()
				wantOutsApart(t, out, want)
				scribble(k.Agreed(), line(5, 55, "mark"))
				scribble(k.Disk(0), 0xee)
			}
		}
		if k.State() != twin.State() || string(k.Disk(0)) != string(twin.Disk(0)) || !slices.Equal(k.Agreed(), twin.Agreed()) {
			t.Errorf("P2: twins say %+v and %+v", k.State(), twin.State())
		}
	}
}

// wantOutsApart writes into the frames, one behind the other, and holds those that follow against what they were.
func wantOutsApart(t *testing.T, out, want []api.Out) {
	t.Helper()
	for i, o := range out {
		if !reflect.DeepEqual(o, want[i]) {
			t.Errorf("P2: the frame %d is %+v, want %+v", i, o, want[i])
		}
		scribble(o.Bytes, 0xee)
	}
	scribble(out, api.Out{To: 55})
}

func TestP2TheBytesOfADeadKeeperAreApart(t *testing.T) {
	k := openAs(t, 3, 0, moreRecord(line(7, 1, "a")))
	k.Arm(1)
	refuses(t, k, packed(t, say(line(8, 1, "b"))), api.ErrCrash)
	for keep := range 10 {
		wantApart(t, k.Disk(keep), k.Disk(keep), 0xee)
		wantApart(t, k.Disk(keep), k.Disk(100), 0xee)
	}
}

func TestP11TellsNothingNew(t *testing.T) {
	a, b := line(7, 1, "a"), line(8, 1, "b")
	k := openAs(t, 3, 0, moreRecord(a)+moreRecord(b))
	hears(t, k, hold(1, 0, 1), told(0, 1, a))
	for range 3 {
		wantState(t, k, 0, 0, 2, 1)
		wantAgreed(t, k, a)
		k.Disk(3)
	}
}

// oddFrame: a frame as keepers in the first views may send it, some of them wrong.
func oddFrame(r *rand.Rand) []byte {
	f := allKinds()[r.Intn(9)]
	if f.Kind != api.Say {
		f.View = r.Intn(4) * r.Intn(2)
	}
	switch f.Kind {
	case api.Say, api.Prepare:
		f.Line = oddLine(r)
	case api.Yield, api.Begin:
		f.Lines = oddLines(r)
	}
	if f.Kind != api.Say && f.Kind != api.Told {
		f.From = r.Intn(5)
	}
	if f.Kind == api.Prepare || f.Kind == api.Hold || f.Kind == api.Told {
		f.Place = 1 + r.Intn(5)
	}
	if f.Kind == api.Prepare || f.Kind == api.Beat || f.Kind == api.Begin {
		f.From = f.View % 5
		f.Agreed = r.Intn(6)
	}
	b, _ := parley.Pack(f)
	if len(b) > 0 && r.Intn(10) == 0 {
		b[r.Intn(len(b))]++
	}
	return b
}

func oddLine(r *rand.Rand) api.Line {
	return line(1+r.Intn(3), 1+r.Intn(9), "abc"[:r.Intn(4)])
}

func oddLines(r *rand.Rand) []api.Line {
	var lines []api.Line
	for turn := range r.Intn(7) {
		lines = append(lines, line(1+r.Intn(3), turn+1, ""))
	}
	return lines
}

func oddDisk(r *rand.Rand) string {
	return []string{"", viewRecord(1), viewRecord(2), allRecord(1), allRecord(3, line(1, 1, "")), allRecord(2, line(2, 2, "")) + viewRecord(3)}[r.Intn(6)]
}

// Whatever comes: no panic; with an error nothing changes; what is agreed, and what is written, stays; the disk says what the keeper does.
func TestP1WhateverComes(t *testing.T) {
	r := rand.New(rand.NewSource(3))
	for range 3000 {
		me, disk, arm := r.Intn(5), oddDisk(r), r.Intn(8)
		k, twin := openAs(t, 5, me, disk), openAs(t, 5, me, disk)
		k.Arm(arm)
		twin.Arm(arm)
		for range 30 {
			b := oddFrame(r)
			if r.Intn(8) == 0 {
				b = nil
			}
			wantStep(t, k, twin, me, b)
		}
	}
}

// wantStep: one frame, or a tick, to a keeper and to its twin.
func wantStep(t *testing.T, k, twin *parley.Keeper, me int, b []byte) {
	t.Helper()
	state, agreed, disk := k.State(), k.Agreed(), k.Disk(0)
	out, e := step(k, b)
	again, eAgain := step(twin, b)
	if e != eAgain || !reflect.DeepEqual(out, again) || k.State() != twin.State() {
		t.Errorf("P2: at %x twins answer %v, %d and %v, %d", b, out, e, again, eAgain)
	}
	switch {
	case e == api.OK:
		wantSound(t, k, me, out)
		if len(k.Agreed()) < len(agreed) && k.State().View == state.View && state.View == state.Last {
			t.Errorf("P9: at %x less is agreed than was", b)
		}
	case len(out) != 0:
		t.Errorf("P1: at %x: %d frames beside %d", b, len(out), e)
	case e == api.ErrCrash || e == api.ErrDead:
		if k.State() != (api.State{}) || len(k.Agreed()) != 0 {
			t.Errorf("P5: a dead keeper says %+v", k.State())
		}
	case e != api.ErrFrame || k.State() != state || !slices.Equal(k.Agreed(), agreed):
		t.Errorf("P1: at %x: %d, and the keeper has changed", b, e)
	}
	if !bytes.HasPrefix(k.Disk(0), disk) || e != api.OK && len(k.Disk(0)) != len(disk) {
		t.Errorf("P5: at %x, %d: the disk is %x, was %x", b, e, k.Disk(0), disk)
	}
}

func step(k *parley.Keeper, b []byte) ([]api.Out, api.Errno) {
	if b == nil {
		return k.Tick()
	}
	return k.Heard(b)
}

// wantSound: the disk says what the keeper says, and what is sent is a right frame of that keeper.
func wantSound(t *testing.T, k *parley.Keeper, me int, out []api.Out) {
	t.Helper()
	said := openAs(t, 5, me, string(k.Disk(0))).State()
	said.Agreed = k.State().Agreed
	if k.State() != said || said.Agreed > said.Lines || len(k.Agreed()) != said.Agreed {
		t.Errorf("P5, P11: the keeper says %+v, its disk %+v", k.State(), said)
	}
	for _, o := range out {
		f, e := parley.Unpack(o.Bytes)
		if e != api.OK || o.Client != (f.Kind == api.Told) {
			t.Errorf("P6: %+v is sent, %d", o, e)
		}
		if o.Client && o.To != f.Line.Client || !o.Client && (f.From != me || o.To == me) {
			t.Errorf("P6: %+v is sent to %d", f, o.To)
		}
	}
}
