package parley_test

import (
	"bytes"
	"math/rand"
	"reflect"
	"slices"
	"testing"

	"parley/api"
	"parley/parley"
)

func TestP2PackLeavesWhatIsHandedIn(t *testing.T) {
	mark := line(5, 55, "mark")
	for _, f := range allKinds() {
		whole, part := withSpare(f.Lines, mark)
		was := append([]api.Line(nil), whole...)
		f.Lines = part
		first, _ := parley.Pack(f)
		want := string(first)
		if !reflect.DeepEqual(whole, was) {
			t.Errorf("P2: Pack has written into the lines: %v, were %v", whole, was)
		}
		second, _ := parley.Pack(f)
		scribble(first, 0xee)
		clear(whole)
		if string(second) != want {
			t.Errorf("P2: bytes that came out have changed: %x, were %x", second, want)
		}
	}
}

func TestP2UnpackLeavesWhatIsHandedIn(t *testing.T) {
	for _, f := range allKinds() {
		packed, _ := parley.Pack(f)
		whole, part := withSpare(packed, 0xee)
		was := string(whole)
		first, _ := parley.Unpack(part)
		second, _ := parley.Unpack(part)
		if string(whole) != was {
			t.Errorf("P2: Unpack has written into the bytes: %x, were %x", whole, was)
		}
		clear(whole)
		scribble(first.Lines, line(5, 55, "mark"))
		if !reflect.DeepEqual(second, f) {
			t.Errorf("P2: a frame that came out has changed: %+v, was %+v", second, f)
		}
	}
}

func TestP2OpenLeavesWhatIsHandedIn(t *testing.T) {
	disk := record("\x01\x07\x01\x01a") + record("\x02\x03")
	want := api.State{View: 3, Lines: 1}
	for _, gone := range []string{"", "torn"} {
		whole, part := withSpare([]byte(disk+gone), 0xee)
		was := string(whole)
		first, _ := parley.Open(api.Config{Keepers: 3, Patience: 5}, part)
		second, _ := parley.Open(api.Config{Keepers: 3, Patience: 5}, part)
		for range 3 {
			scribble(first.Disk(0), 0xee)
			scribble(first.Agreed(), line(5, 55, "mark"))
		}
		if string(whole) != was {
			t.Errorf("P2: the disk that was handed in has changed: %x, was %x", whole, was)
		}
		clear(whole)
		for _, k := range []*parley.Keeper{first, second} {
			if k.State() != want || string(k.Disk(0)) != disk || len(k.Agreed()) != 0 {
				t.Errorf("P2: a keeper has changed: %+v, %x, %v", k.State(), k.Disk(0), k.Agreed())
			}
		}
	}
}

// wantApart: what is written into one list and its spare room is not seen in the other and its spare room.
func wantApart[T any](t *testing.T, first, second []T, mark T) {
	t.Helper()
	second = second[:cap(second)]
	was := slices.Clone(second)
	scribble(first, mark)
	if !reflect.DeepEqual(second, was) {
		t.Errorf("P2: a list that came out has changed: %v, was %v", second, was)
	}
}

func TestP2AnswersAreApart(t *testing.T) {
	k := open(t, record("\x01\x07\x01\x01a")+record("\x01\x07\x02\x00"))
	mark := line(5, 55, "mark")
	wantApart(t, k.Disk(0), k.Disk(0), 0xee)
	wantApart(t, k.Agreed(), k.Agreed(), mark)
	for _, f := range allKinds() {
		first, _ := parley.Pack(f)
		second, _ := parley.Pack(f)
		firstFrame, _ := parley.Unpack(first)
		secondFrame, _ := parley.Unpack(first)
		wantApart(t, firstFrame.Lines, secondFrame.Lines, mark)
		wantApart(t, first, second, 0xee)
	}
}

// oddBytes: bytes that are nearly right: right pieces, some of them wrong in a byte, some cut.
func oddBytes(r *rand.Rand) []byte {
	var b []byte
	for range r.Intn(4) {
		piece := oddPiece(r)
		if len(piece) > 0 && r.Intn(3) == 0 {
			piece[r.Intn(len(piece))] = byte(r.Intn(256))
		}
		b = append(b, piece...)
	}
	return b[:len(b)-r.Intn(len(b)/8+1)]
}

func oddPiece(r *rand.Rand) []byte {
	some := make([]byte, r.Intn(12))
	for i := range some {
		some[i] = byte(r.Intn(11))
	}
	switch r.Intn(3) {
	case 0:
		return some
	case 1:
		return []byte(checked(string(some)))
	}
	return []byte(record(string(some)))
}

func TestP1AnyBytes(t *testing.T) {
	r := rand.New(rand.NewSource(1))
	for range 50000 {
		b := oddBytes(r)
		f, e := parley.Unpack(b)
		if e == api.OK {
			if again, e := parley.Pack(f); !bytes.Equal(again, b) || e != api.OK {
				t.Errorf("P3: %x is a frame, but its bytes are %x, %d", b, again, e)
			}
		} else if e != api.ErrFrame || !reflect.DeepEqual(f, api.Frame{}) {
			t.Errorf("P1: Unpack(%x): %+v beside %d", b, f, e)
		}
		k, e := parley.Open(api.Config{Keepers: 5, Me: 4, Patience: 2}, b)
		if k == nil || e != api.OK {
			t.Fatalf("P4: any bytes are a disk, but Open(%x) answers %d", b, e)
		}
		if !bytes.HasPrefix(b, k.Disk(0)) {
			t.Errorf("P4: the disk %x of %x", k.Disk(0), b)
		}
	}
}

func TestP1AnyFrame(t *testing.T) {
	r := rand.New(rand.NewSource(2))
	far := append(farNumbers(), 0, 1, 2, 3, 4, 5, 9, 10, 20, 21, 99, 100)
	for range 50000 {
		f := allKinds()[r.Intn(9)]
		for range r.Intn(3) {
			fields := []*int{&f.Kind, &f.From, &f.View, &f.Place, &f.Agreed, &f.Last, &f.Line.Client, &f.Line.Turn}
			*fields[r.Intn(len(fields))] = far[r.Intn(len(far))]
		}
		b, e := parley.Pack(f)
		if e != api.OK {
			if e != api.ErrFrame || len(b) != 0 {
				t.Errorf("P1: Pack(%+v): %x beside %d", f, b, e)
			}
			continue
		}
		if again, e := parley.Unpack(b); !reflect.DeepEqual(again, f) || e != api.OK {
			t.Errorf("P3: Pack(%+v) = %x, but that is %+v, %d", f, b, again, e)
		}
	}
}

func TestP1AnyNumbers(t *testing.T) {
	k := open(t, record("\x01\x07\x01\x01a"))
	for _, n := range append(farNumbers(), 0, 1, 2) {
		k.Disk(n)
		k.Arm(n)
	}
	for _, b := range [][]byte{nil, {}, {1}, bytes.Repeat([]byte{0xff}, 1<<16)} {
		k.Heard(b)
		if _, e := parley.Open(api.Config{Keepers: 3, Patience: 2}, b); e != api.OK {
			t.Errorf("P4: Open of %d bytes: %d", len(b), e)
		}
		if f, e := parley.Unpack(b); e != api.ErrFrame || !reflect.DeepEqual(f, api.Frame{}) {
			t.Errorf("P1: Unpack of %d bytes: %+v, %d", len(b), f, e)
		}
	}
}

func TestP1LongDisk(t *testing.T) {
	disk := ""
	for i := range 100 {
		disk += record(string([]byte{2, byte(i)}))
	}
	long := bytes.Repeat([]byte(disk+record("\x03\x00\x14"+lineBytes(20, "eightlet"))), 200)
	k := open(t, string(long))
	if !bytes.Equal(k.Disk(0), long) || k.State() != (api.State{Lines: 20}) {
		t.Errorf("P4: of a long disk: %+v, %d bytes of %d", k.State(), len(k.Disk(0)), len(long))
	}
}
