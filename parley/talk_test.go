package parley_test

import (
	"reflect"
	"slices"
	"testing"

	"parley/api"
	"parley/parley"
)

func say(l api.Line) api.Frame { return api.Frame{Kind: api.Say, Line: l} }

func prepare(from, view, place, agreed int, l api.Line) api.Frame {
	return api.Frame{Kind: api.Prepare, From: from, View: view, Place: place, Agreed: agreed, Line: l}
}

func hold(from, view, place int) api.Frame {
	return api.Frame{Kind: api.Hold, From: from, View: view, Place: place}
}

func beat(from, view, agreed int) api.Frame {
	return api.Frame{Kind: api.Beat, From: from, View: view, Agreed: agreed}
}

func change(from, view int) api.Frame { return api.Frame{Kind: api.Change, From: from, View: view} }

func yield(from, view, agreed, last int, lines ...api.Line) api.Frame {
	return api.Frame{Kind: api.Yield, From: from, View: view, Agreed: agreed, Last: last, Lines: lines}
}

func begin(from, view, agreed int, lines ...api.Line) api.Frame {
	return api.Frame{Kind: api.Begin, From: from, View: view, Agreed: agreed, Lines: lines}
}

func lag(from, view int) api.Frame { return api.Frame{Kind: api.Lag, From: from, View: view} }

// A parcel: a frame, and to whom it is to go.
type parcel struct {
	client bool
	to     int
	frame  api.Frame
}

func to(keeper int, f api.Frame) parcel { return parcel{to: keeper, frame: f} }

// told: to the line's client, which is told no body.
func told(view, place int, l api.Line) parcel {
	l.Body = ""
	return parcel{client: true, to: l.Client, frame: api.Frame{Kind: api.Told, View: view, Place: place, Line: l}}
}

// toEach: the same frame to each of these keepers.
func toEach(f api.Frame, keepers ...int) []parcel {
	var all []parcel
	for _, n := range keepers {
		all = append(all, to(n, f))
	}
	return all
}

func openAs(t *testing.T, keepers, me int, disk string) *parley.Keeper {
	t.Helper()
	return openPatient(t, keepers, me, 5, disk)
}

func openPatient(t *testing.T, keepers, me, patience int, disk string) *parley.Keeper {
	t.Helper()
	k, e := parley.Open(api.Config{Keepers: keepers, Me: me, Patience: patience}, []byte(disk))
	if k == nil || e != api.OK {
		t.Fatalf("P4: Open of the disk %x: %v, %d", disk, k != nil, e)
	}
	return k
}

// moreRecord: the record of a line more; allRecord: that of all lines; viewRecord: that of a view.
func moreRecord(l api.Line) string {
	return record("\x01" + oneLine(l))
}

func allRecord(view int, lines ...api.Line) string {
	inner := string([]byte{3, byte(view), byte(len(lines))})
	for _, l := range lines {
		inner += oneLine(l)
	}
	return record(inner)
}

func viewRecord(view int) string { return record(string([]byte{2, byte(view)})) }

func oneLine(l api.Line) string {
	return string([]byte{byte(l.Client), byte(l.Turn), byte(len(l.Body))}) + l.Body
}

func packed(t *testing.T, f api.Frame) []byte {
	t.Helper()
	b, e := parley.Pack(f)
	if e != api.OK {
		t.Fatalf("P3: Pack(%+v): %d", f, e)
	}
	return b
}

func wantSent(t *testing.T, what string, out []api.Out, e api.Errno, want []parcel) {
	t.Helper()
	if e != api.OK || len(out) != len(want) {
		t.Errorf("%s: %d frames are sent, %d, want %d", what, len(out), e, len(want))
		return
	}
	for i, o := range out {
		f, e := parley.Unpack(o.Bytes)
		got := parcel{client: o.Client, to: o.To, frame: f}
		if len(got.frame.Lines) == 0 {
			got.frame.Lines = nil
		}
		if e != api.OK || !reflect.DeepEqual(got, want[i]) {
			t.Errorf("%s: the frame %d is %+v, %d, want %+v", what, i, got, e, want[i])
		}
	}
}

func hears(t *testing.T, k *parley.Keeper, f api.Frame, want ...parcel) {
	t.Helper()
	out, e := k.Heard(packed(t, f))
	wantSent(t, "P6 to P9: Heard", out, e, want)
}

func ticks(t *testing.T, k *parley.Keeper, want ...parcel) {
	t.Helper()
	out, e := k.Tick()
	wantSent(t, "P10: Tick", out, e, want)
}

// refuses: an error, and nothing beside it.
func refuses(t *testing.T, k *parley.Keeper, b []byte, want api.Errno) {
	t.Helper()
	if out, e := k.Heard(b); len(out) != 0 || e != want {
		t.Errorf("P1, P6: Heard(%x): %d frames, %d, want %d", b, len(out), e, want)
	}
}

func wantState(t *testing.T, k *parley.Keeper, view, last, lines, agreed int) {
	t.Helper()
	want := api.State{View: view, Last: last, Lines: lines, Agreed: agreed}
	if got := k.State(); got != want {
		t.Errorf("P11: State: %+v, want %+v", got, want)
	}
}

func wantAgreed(t *testing.T, k *parley.Keeper, want ...api.Line) {
	t.Helper()
	if got := k.Agreed(); !slices.Equal(got, want) {
		t.Errorf("P11: Agreed: %v, want %v", got, want)
	}
}

func wantDisk(t *testing.T, k *parley.Keeper, want string) {
	t.Helper()
	if got := k.Disk(0); string(got) != want {
		t.Errorf("P5: Disk: %x, want %x", got, want)
	}
}

// unchanged looks at a keeper, and gives a function that tells whether it is still the same.
func unchanged(t *testing.T, k *parley.Keeper) func(why string) {
	state, agreed, disk := k.State(), k.Agreed(), string(k.Disk(100))
	return func(why string) {
		t.Helper()
		if k.State() != state || !slices.Equal(k.Agreed(), agreed) || string(k.Disk(100)) != disk {
			t.Errorf("P1: %s: the keeper has changed: %+v, %v, %x, was %+v, %v, %x", why, k.State(), k.Agreed(), k.Disk(100), state, agreed, disk)
		}
	}
}
