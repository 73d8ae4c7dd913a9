package records

import (
	"math"
	"reflect"
	"testing"

	"parley/api"
)

func wantDisk(t *testing.T, d *Disk, written string, said Content) {
	t.Helper()
	if got := string(d.Bytes(0)); got != written {
		t.Errorf("the disk is %x, want %x", got, written)
	}
	got := d.Said()
	if got.View != said.View || got.Last != said.Last || len(got.Lines) != len(said.Lines) {
		t.Errorf("the disk says %+v, want %+v", got, said)
	}
	if len(got.Lines) > 0 && !reflect.DeepEqual(got.Lines, said.Lines) {
		t.Errorf("the disk says the lines %v, want %v", got.Lines, said.Lines)
	}
}

func TestWriting(t *testing.T) {
	d := Open([]byte(record("\x02\x03") + "torn"))
	wantDisk(t, &d, record("\x02\x03"), Content{View: 3})
	a, b := line(7, 1, "a"), line(9, 99, "eightlet")
	if !d.LineMore(a) {
		t.Errorf("a line more has failed")
	}
	written := record("\x02\x03") + record("\x01\x07\x01\x01a")
	wantDisk(t, &d, written, Content{View: 3, Lines: []api.Line{a}})
	if !d.All(100, []api.Line{b, a}) {
		t.Errorf("all has failed")
	}
	written += record("\x03\x64\x02\x09\x63\x08eightlet\x07\x01\x01a")
	wantDisk(t, &d, written, Content{View: 100, Last: 100, Lines: []api.Line{b, a}})
	if !d.All(0, nil) {
		t.Errorf("all, without lines, has failed")
	}
	written += record("\x03\x00\x00")
	wantDisk(t, &d, written, Content{})
	if !d.LineMore(a) || !d.View(100) {
		t.Errorf("a view has failed")
	}
	written += record("\x01\x07\x01\x01a") + record("\x02\x64")
	wantDisk(t, &d, written, Content{View: 100, Lines: []api.Line{a}})
	again := Open(d.Bytes(0))
	wantDisk(t, &again, written, Content{View: 100, Lines: []api.Line{a}})
}

func TestTheGreatestRecord(t *testing.T) {
	var lines []api.Line
	for turn := 1; turn <= api.MaxLines; turn++ {
		lines = append(lines, line(1, turn, "eightlet"))
	}
	d := Open(nil)
	d.All(api.MaxView, lines)
	again := Open(d.Bytes(0))
	wantDisk(t, &again, string(d.Bytes(0)), Content{View: 100, Last: 100, Lines: lines})
}

func TestFailing(t *testing.T) {
	a, b, c := line(1, 1, ""), line(1, 2, ""), line(1, 3, "")
	d := Open(nil)
	d.Arm(5)
	d.Arm(2)
	if d.Failed() || !d.LineMore(a) || d.Failed() {
		t.Errorf("the first record of two has failed")
	}
	if d.LineMore(b) || !d.Failed() {
		t.Errorf("the second record of two has not failed")
	}
	one, two := record("\x01\x01\x01\x00"), record("\x01\x01\x02\x00")
	wantDisk(t, &d, one, Content{})
	for _, n := range []int{0, 1, -1} {
		d.Arm(n)
		if d.LineMore(c) || d.View(1) || d.All(1, nil) || !d.Failed() {
			t.Errorf("a disk that has failed is written")
		}
	}
	for keep, want := range map[int]string{math.MinInt: one, -1: one, 1: one + two[:1], len(two): one + two, len(two) + 1: one + two, math.MaxInt: one + two} {
		if got := string(d.Bytes(keep)); got != want {
			t.Errorf("Bytes(%d) = %x, want %x", keep, got, want)
		}
	}
}
