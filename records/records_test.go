package records

import (
	"reflect"
	"testing"

	"parley/api"
	"parley/check"
)

func record(inner string) string {
	return string(check.Append(append([]byte{byte(len(inner))}, inner...)))
}

func line(client, turn int, body string) api.Line {
	return api.Line{Client: client, Turn: turn, Body: body}
}

func TestKinds(t *testing.T) {
	if lineMore != 1 || view != 2 || all != 3 {
		t.Errorf("the kinds of records: %d, %d, %d", lineMore, view, all)
	}
}

func TestReadWhatRecordsSay(t *testing.T) {
	a := record("\x01\x07\x01\x01a")
	b := record("\x01\x07\x02\x00")
	c := record("\x01\x02\x01\x08eightlet")
	both := record("\x03\x05\x02\x01\x01\x00\x02\x05\x03xyz")
	none := record("\x03\x64\x00")
	for _, x := range []struct {
		disk string
		want Content
	}{
		{"", Content{}},
		{a + b + c, Content{Lines: []api.Line{line(7, 1, "a"), line(7, 2, ""), line(2, 1, "eightlet")}}},
		{a + both, Content{View: 5, Last: 5, Lines: []api.Line{line(1, 1, ""), line(2, 5, "xyz")}}},
		{both + a, Content{View: 5, Last: 5, Lines: []api.Line{line(1, 1, ""), line(2, 5, "xyz"), line(7, 1, "a")}}},
		{both + record("\x02\x07") + a, Content{View: 7, Last: 5, Lines: []api.Line{line(1, 1, ""), line(2, 5, "xyz"), line(7, 1, "a")}}},
		{b + none + a, Content{View: 100, Last: 100, Lines: []api.Line{line(7, 1, "a")}}},
	} {
		for _, gone := range []string{"", "\x00", record("\x04") + a} {
			got, size := Read([]byte(x.disk + gone))
			if got.View != x.want.View || got.Last != x.want.Last || len(got.Lines) != len(x.want.Lines) || size != len(x.disk) {
				t.Errorf("Read(%x) = %+v, %d, want %+v, %d", x.disk+gone, got, size, x.want, len(x.disk))
			}
			if len(got.Lines) > 0 && !reflect.DeepEqual(got.Lines, x.want.Lines) {
				t.Errorf("Read(%x): the lines %v, want %v", x.disk+gone, got.Lines, x.want.Lines)
			}
		}
	}
}

// A record that is refused must not have touched the lines that were read ahead of it.
func TestReadLeavesLinesAtARefusal(t *testing.T) {
	disk := record("\x01\x01\x01\x01a") + record("\x01\x01\x02\x01b") + record("\x01\x01\x03\x01c")
	got, size := Read([]byte(disk + record("\x01\x01\x03\x01x") + record("\x01\x01\x04\x01y")))
	want := []api.Line{line(1, 1, "a"), line(1, 2, "b"), line(1, 3, "c")}
	if !reflect.DeepEqual(got.Lines, want) || size != len(disk) {
		t.Errorf("Read: %v, %d, want %v, %d", got.Lines, size, want, len(disk))
	}
}
