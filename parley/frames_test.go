package parley_test

import (
	"fmt"
	"reflect"
	"strings"
	"testing"

	"parley/api"
	"parley/parley"
)

// A span: from the least number of a field to the greatest.
type span struct{ least, most int }

// spans: for each kind the numbers From, View, Place, Agreed, Last may have, as the document's table says.
func spans(kind int) [5]span {
	from, view, last := span{0, 4}, span{0, 100}, span{0, 100}
	place, firstPlace, agreed := span{0, 20}, span{1, 20}, span{0, 20}
	return map[int][5]span{
		api.Say:     {},
		api.Prepare: {from, view, firstPlace, agreed, {}},
		api.Hold:    {from, view, place, {}, {}},
		api.Beat:    {from, view, {}, agreed, {}},
		api.Change:  {from, view, {}, {}, {}},
		api.Yield:   {from, view, {}, agreed, last},
		api.Begin:   {from, view, {}, agreed, {}},
		api.Lag:     {from, view, {}, {}, {}},
		api.Told:    {{}, view, firstPlace, {}, {}},
	}[kind]
}

func numbers(f *api.Frame) [5]*int {
	return [5]*int{&f.From, &f.View, &f.Place, &f.Agreed, &f.Last}
}

func wantPacked(t *testing.T, f api.Frame, want bool) {
	t.Helper()
	b, e := parley.Pack(f)
	if want && (len(b) == 0 || e != api.OK) {
		t.Errorf("P3: Pack(%+v) = %x, %d, but it is a frame", f, b, e)
	}
	if !want && (len(b) != 0 || e != api.ErrFrame) {
		t.Errorf("P3: Pack(%+v) = %x, %d, but it is no frame", f, b, e)
	}
}

func wantNoFrame(t *testing.T, b []byte, why string) {
	t.Helper()
	if f, e := parley.Unpack(b); e != api.ErrFrame || !reflect.DeepEqual(f, api.Frame{}) {
		t.Errorf("P3: Unpack(%x), %s: %+v, %d", b, why, f, e)
	}
}

func TestP3Bytes(t *testing.T) {
	for i, want := range []string{
		"\x01\x00\x00\x00\x00\x00\x07\x01\x01a",
		"\x02\x04\x64\x14\x13\x00\x09\x63\x08\x00\xffghtlet",
		"\x03\x01\x02\x03\x00\x00",
		"\x04\x01\x02\x00\x03\x00",
		"\x05\x03\x63\x00\x00\x00",
		"\x06\x01\x02\x00\x03\x04\x02\x07\x01\x01a\x09\x63\x08\x00\xffghtlet",
		"\x07\x02\x01\x00\x14\x00\x01\x09\x63\x08\x00\xffghtlet",
		"\x08\x01\x07\x00\x00\x00",
		"\x09\x00\x02\x01\x00\x00\x07\x01\x00",
	} {
		f := allKinds()[i]
		if b, e := parley.Pack(f); string(b) != checked(want) || e != api.OK {
			t.Errorf("P3: Pack(%+v) = %x, %d, want %x", f, b, e, checked(want))
		}
		if got, e := parley.Unpack([]byte(checked(want))); !reflect.DeepEqual(got, f) || e != api.OK {
			t.Errorf("P3: Unpack(%x) = %+v, %d, want %+v", checked(want), got, e, f)
		}
	}
}

func TestP3Kinds(t *testing.T) {
	for _, kind := range append(farNumbers(), 0, 10, 11) {
		for _, f := range allKinds() {
			f.Kind = kind
			wantPacked(t, f, false)
		}
	}
	for kind := range 256 {
		if kind < api.Say || kind > api.Told {
			wantNoFrame(t, []byte(checked(string([]byte{byte(kind), 0, 0, 0, 0, 0}))), "of no kind")
		}
	}
}

func TestP3NumbersPacked(t *testing.T) {
	for i := range allKinds() {
		for n := range 5 {
			f := allKinds()[i]
			s := spans(f.Kind)[n]
			for _, v := range append(farNumbers(), s.least-1, s.least, s.most, s.most+1) {
				*numbers(&f)[n] = v
				wantPacked(t, f, v >= s.least && v <= s.most)
			}
		}
	}
}

func TestP3NumbersUnpacked(t *testing.T) {
	for _, f := range allKinds() {
		packed, _ := parley.Pack(f)
		for n := range 5 {
			s := spans(f.Kind)[n]
			for v := range 256 {
				b := append([]byte(nil), packed[:len(packed)-2]...)
				b[n+1] = byte(v)
				b = []byte(checked(string(b)))
				if v < s.least || v > s.most {
					wantNoFrame(t, b, "with a wrong number")
					continue
				}
				want := f
				*numbers(&want)[n] = v
				if got, e := parley.Unpack(b); !reflect.DeepEqual(got, want) || e != api.OK {
					t.Errorf("P3: Unpack(%x) = %+v, %d, want %+v", b, got, e, want)
				}
			}
		}
	}
}

// withLine: a frame of each kind that holds a line, with this one.
func withLine(l api.Line) []api.Frame {
	return []api.Frame{
		{Kind: api.Say, Line: l},
		{Kind: api.Prepare, Place: 1, Line: l},
		{Kind: api.Told, Place: 1, Line: l},
		{Kind: api.Yield, Lines: []api.Line{l}},
		{Kind: api.Begin, Lines: []api.Line{l}},
	}
}

func TestP3Line(t *testing.T) {
	for _, l := range []api.Line{line(1, 1, ""), line(9, 1, ""), line(1, 99, ""), line(9, 99, "eightlet"), line(1, 1, "\x00"), line(1, 1, "\xff\xfe\x80")} {
		for _, f := range withLine(l) {
			wantPacked(t, f, f.Kind != api.Told || l.Body == "")
		}
	}
	wrong := []api.Line{{}, line(0, 1, ""), line(10, 1, ""), line(1, 0, ""), line(1, 100, ""), line(1, 1, "ninebytes"), line(1, 1, "ääääx"), line(1, 1, strings.Repeat("x", 256)), line(0, 0, "a")}
	for _, n := range farNumbers() {
		wrong = append(wrong, line(n, 1, ""), line(1, n, ""))
	}
	for _, l := range wrong {
		for _, f := range withLine(l) {
			wantPacked(t, f, false)
		}
	}
}

func TestP3LineUnpacked(t *testing.T) {
	heads := []string{"\x01\x00\x00\x00\x00\x00", "\x02\x00\x00\x01\x00\x00", "\x06\x00\x00\x00\x00\x00\x01", "\x07\x00\x00\x00\x00\x00\x01"}
	for _, head := range heads {
		for _, l := range []string{"\x00\x01\x00", "\x0a\x01\x00", "\x01\x00\x00", "\x01\x64\x00", "\xff\x01\x00", "\x01\xff\x00", "\x01\x01\x09ninebytes", "\x01\x01\x02a", "\x01\x01\x01ab", "\x01\x01\xff", ""} {
			wantNoFrame(t, []byte(checked(head+l)), "with a wrong line")
		}
		if _, e := parley.Unpack([]byte(checked(head + "\x09\x63\x08eightlet"))); e != api.OK {
			t.Errorf("P3: Unpack of the greatest line behind %x: %d", head, e)
		}
	}
	wantNoFrame(t, []byte(checked("\x09\x00\x00\x01\x00\x00\x01\x01\x01a")), "a Told with a body")
}

func TestP3LineOfOthers(t *testing.T) {
	for _, f := range allKinds() {
		if f.Line != (api.Line{}) {
			continue
		}
		for _, l := range []api.Line{line(1, 1, "a"), line(1, 0, ""), line(0, 1, ""), line(0, 0, "a")} {
			f.Line = l
			wantPacked(t, f, false)
		}
	}
}

func TestP3Lines(t *testing.T) {
	right := [][]api.Line{nil, {}, risingLines(1, ""), risingLines(20, "eightlet"), {line(1, 5, ""), line(2, 1, ""), line(1, 6, ""), line(2, 2, "")}}
	wrong := [][]api.Line{risingLines(21, ""), make([]api.Line, 1), make([]api.Line, 256), {line(1, 1, ""), line(1, 1, "")}, {line(1, 2, ""), line(1, 1, "")}, {line(1, 5, ""), line(2, 1, ""), line(1, 5, "")}, append(risingLines(19, ""), line(1, 19, ""))}
	for _, kind := range []int{api.Yield, api.Begin} {
		for _, lines := range right {
			wantPacked(t, api.Frame{Kind: kind, Lines: lines}, true)
		}
		for _, lines := range wrong {
			wantPacked(t, api.Frame{Kind: kind, Lines: lines}, false)
		}
	}
	for _, f := range allKinds() {
		if f.Kind == api.Yield || f.Kind == api.Begin {
			continue
		}
		f.Lines = []api.Line{}
		wantPacked(t, f, true)
		f.Lines = risingLines(1, "")
		wantPacked(t, f, false)
		f.Lines = make([]api.Line, 1)
		wantPacked(t, f, false)
	}
}

func TestP3LinesUnpacked(t *testing.T) {
	for _, kind := range []int{api.Yield, api.Begin} {
		head := string([]byte{byte(kind), 0, 0, 0, 0, 0})
		for n := range 256 {
			b := []byte(checked(head + string([]byte{byte(n)}) + lineBytes(n, "")))
			if n > 20 {
				wantNoFrame(t, b, fmt.Sprintf("with %d lines", n))
				continue
			}
			f, e := parley.Unpack(b)
			if len(f.Lines) != n || e != api.OK || n > 0 && !reflect.DeepEqual(f.Lines, risingLines(n, "")) {
				t.Errorf("P3: Unpack of %d lines: %+v, %d", n, f, e)
			}
		}
		for _, s := range []string{"\x02" + lineBytes(1, ""), "\x00" + lineBytes(1, ""), "\x01" + lineBytes(2, ""), "\x02\x01\x01\x00\x01\x01\x00", "\x02\x01\x02\x00\x01\x01\x00", "\x03\x01\x02\x00\x02\x01\x00\x01\x02\x00"} {
			wantNoFrame(t, []byte(checked(head+s)), "with wrong lines")
		}
	}
}

func TestP3JustTheBytes(t *testing.T) {
	for _, f := range allKinds() {
		packed, _ := parley.Pack(f)
		content := string(packed[:len(packed)-2])
		for i := range packed {
			for bit := range 8 {
				b := append([]byte(nil), packed...)
				b[i] ^= 1 << bit
				wantNoFrame(t, b, "with a wrong check")
			}
			wantNoFrame(t, packed[:i], "cut")
			wantNoFrame(t, packed[i+1:], "cut ahead")
		}
		for i := range content {
			wantNoFrame(t, []byte(checked(content[:i])), "cut, with a check")
		}
		wantNoFrame(t, append(packed, 0), "and a byte more")
		wantNoFrame(t, []byte(checked(content+"\x00")), "and a byte more, with a check")
		swapped := []byte(checked(content))
		n := len(swapped)
		if swapped[n-1] != swapped[n-2] {
			swapped[n-1], swapped[n-2] = swapped[n-2], swapped[n-1]
			wantNoFrame(t, swapped, "with the check's higher byte first")
		}
	}
}
