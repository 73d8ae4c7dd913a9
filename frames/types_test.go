package frames

import (
	"bytes"
	"reflect"
	"testing"

	"parley/api"
)

// pairs: a right frame of each kind, with all fields that it has, as package api has it and in its own type.
func pairs() []struct {
	plain api.Frame
	typed Frame
} {
	l := api.Line{Client: 7, Turn: 1, Body: "a"}
	short := api.Line{Client: 7, Turn: 1}
	lines := []api.Line{l, {Client: 9, Turn: 99, Body: "eightlet"}}
	stamp := Stamp{From: 3, View: 100}
	return []struct {
		plain api.Frame
		typed Frame
	}{
		{api.Frame{Kind: api.Say, Line: l}, Say{Line: l}},
		{api.Frame{Kind: api.Prepare, From: 3, View: 100, Place: 20, Agreed: 19, Line: l}, Prepare{Stamp: stamp, Place: 20, Agreed: 19, Line: l}},
		{api.Frame{Kind: api.Hold, From: 3, View: 100, Place: 20}, Hold{Stamp: stamp, Place: 20}},
		{api.Frame{Kind: api.Beat, From: 3, View: 100, Agreed: 19}, Beat{Stamp: stamp, Agreed: 19}},
		{api.Frame{Kind: api.Change, From: 3, View: 100}, Change{Stamp: stamp}},
		{api.Frame{Kind: api.Yield, From: 3, View: 100, Agreed: 19, Last: 50, Lines: lines}, Yield{Stamp: stamp, Agreed: 19, Last: 50, Lines: lines}},
		{api.Frame{Kind: api.Begin, From: 3, View: 100, Agreed: 19, Lines: lines}, Begin{Stamp: stamp, Agreed: 19, Lines: lines}},
		{api.Frame{Kind: api.Lag, From: 3, View: 100}, Lag{Stamp: stamp}},
		{api.Frame{Kind: api.Told, View: 100, Place: 20, Line: short}, Told{View: 100, Place: 20, Line: short}},
	}
}

func TestEachKindHasItsType(t *testing.T) {
	for _, p := range pairs() {
		b, ok := Pack(p.plain)
		if !ok {
			t.Fatalf("%+v is no frame", p.plain)
		}
		if came, ok := Read(b); !ok || !reflect.DeepEqual(came, p.typed) {
			t.Errorf("Read of %+v: %#v, %v, want %#v", p.plain, came, ok, p.typed)
		}
		if got := Bytes(p.typed); !bytes.Equal(got, b) {
			t.Errorf("Bytes of %#v: %x, want %x", p.typed, got, b)
		}
	}
}

func TestWhatKeepersSendIsStamped(t *testing.T) {
	for _, p := range pairs() {
		f, ok := p.typed.(OfKeeper)
		if want := p.plain.Kind != api.Say && p.plain.Kind != api.Told; ok != want {
			t.Errorf("%#v is of a keeper: %v, want %v", p.typed, ok, want)
		}
		if ok && f.Stamped() != (Stamp{From: 3, View: 100}) {
			t.Errorf("%#v is stamped %+v", p.typed, f.Stamped())
		}
	}
}

func TestReadRefusesWrongBytes(t *testing.T) {
	for _, p := range pairs() {
		b, _ := Pack(p.plain)
		for _, wrong := range [][]byte{nil, b[:len(b)-1], b[1:], append(b, 0)} {
			if came, ok := Read(wrong); ok || came != nil {
				t.Errorf("Read(%x): %#v, %v", wrong, came, ok)
			}
		}
	}
}
