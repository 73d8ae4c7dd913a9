package row

import (
	"reflect"
	"strings"
	"testing"

	"parley/api"
)

func line(client, turn int, body string) api.Line {
	return api.Line{Client: client, Turn: turn, Body: body}
}

func TestRightLine(t *testing.T) {
	for _, l := range []api.Line{line(1, 1, ""), line(9, 99, "eightlet"), line(5, 50, "\x00\xff")} {
		if !RightLine(l) {
			t.Errorf("%+v is right", l)
		}
	}
	for _, l := range []api.Line{{}, line(0, 1, ""), line(10, 1, ""), line(-1, 1, ""), line(257, 1, ""), line(1, 0, ""), line(1, 100, ""), line(1, -1, ""), line(1, 257, ""), line(1, 1, "ninebytes"), line(1, 1, strings.Repeat("x", 256)), line(1, 1, "äääää")} {
		if RightLine(l) {
			t.Errorf("%+v is not right", l)
		}
	}
}

func TestGreatest(t *testing.T) {
	lines := []api.Line{line(1, 3, ""), line(2, 9, ""), line(1, 5, ""), line(1, 4, "")}
	for client, want := range []int{0, 5, 9, 0} {
		if got := Greatest(lines, client); got != want {
			t.Errorf("the greatest turn of client %d: %d, want %d", client, got, want)
		}
	}
}

func TestRight(t *testing.T) {
	var many []api.Line
	for i := range 21 {
		many = append(many, line(1, i+1, ""))
	}
	for _, lines := range [][]api.Line{nil, {}, many[:1], many[:20], {line(1, 2, ""), line(2, 1, ""), line(1, 3, "")}} {
		if !Right(lines) {
			t.Errorf("%v are right", lines)
		}
	}
	for _, lines := range [][]api.Line{many, make([]api.Line, 1000), {line(0, 1, "")}, {line(1, 1, ""), line(1, 1, "")}, {line(1, 2, ""), line(2, 5, ""), line(1, 1, "")}} {
		if Right(lines) {
			t.Errorf("%v are not right", lines)
		}
	}
}

func TestBytes(t *testing.T) {
	lines := []api.Line{line(7, 1, "a"), line(9, 99, "eightlet"), line(1, 2, "")}
	bytes := "\x03\x07\x01\x01a\x09\x63\x08eightlet\x01\x02\x00"
	if got := string(Append([]byte("ahead"), lines)); got != "ahead"+bytes {
		t.Errorf("Append: %x, want %x behind what was there", got, bytes)
	}
	got, rest, ok := Take([]byte(bytes + "behind"))
	if !reflect.DeepEqual(got, lines) || string(rest) != "behind" || !ok {
		t.Errorf("Take: %v, %q, %v", got, rest, ok)
	}
	for i := range bytes {
		if got, rest, ok := Take([]byte(bytes[:i])); got != nil || rest != nil || ok {
			t.Errorf("Take, cut at %d: %v, %q, %v", i, got, rest, ok)
		}
	}
	if got, rest, ok := Take([]byte("\x00behind")); len(got) != 0 || string(rest) != "behind" || !ok {
		t.Errorf("Take of no lines: %v, %q, %v", got, rest, ok)
	}
}
