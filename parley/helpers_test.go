package parley_test

import (
	"math"
	"slices"

	"parley/api"
)

// checked puts behind bytes their check, reckoned here by the document's words and not by the program.
func checked(s string) string {
	n := 7
	for i := range len(s) {
		n = (n*31 + int(s[i])) % 65536
	}
	return s + string([]byte{byte(n % 256), byte(n / 256)})
}

func record(inner string) string {
	return checked(string([]byte{byte(len(inner))}) + inner)
}

func line(client, turn int, body string) api.Line {
	return api.Line{Client: client, Turn: turn, Body: body}
}

// risingLines: n lines of one client.
func risingLines(n int, body string) []api.Line {
	var lines []api.Line
	for i := range n {
		lines = append(lines, line(1, i+1, body))
	}
	return lines
}

// lineBytes: the bytes of n such lines, one behind the other.
func lineBytes(n int, body string) string {
	s := ""
	for i := range n {
		s += string([]byte{1, byte(i + 1), byte(len(body))}) + body
	}
	return s
}

// allKinds: a right frame of each kind, with a number in each field that it has.
func allKinds() []api.Frame {
	a, b := line(7, 1, "a"), line(9, 99, "\x00\xffghtlet")
	return []api.Frame{
		{Kind: api.Say, Line: a},
		{Kind: api.Prepare, From: 4, View: 100, Place: 20, Agreed: 19, Line: b},
		{Kind: api.Hold, From: 1, View: 2, Place: 3},
		{Kind: api.Beat, From: 1, View: 2, Agreed: 3},
		{Kind: api.Change, From: 3, View: 99},
		{Kind: api.Yield, From: 1, View: 2, Agreed: 3, Last: 4, Lines: []api.Line{a, b}},
		{Kind: api.Begin, From: 2, View: 1, Agreed: 20, Lines: []api.Line{b}},
		{Kind: api.Lag, From: 1, View: 7},
		{Kind: api.Told, View: 2, Place: 1, Line: line(7, 1, "")},
	}
}

// farNumbers: numbers that no field may have, those among them that a byte would make small.
func farNumbers() []int {
	return []int{math.MinInt, math.MinInt32, -256, -255, -1, 101, 255, 256, 257, 258, 1 << 16, 1<<16 + 1, math.MaxInt32, 1<<32 + 1, math.MaxInt}
}

// withSpare: the same list, with room behind it in which a mark stands.
func withSpare[T any](list []T, mark T) (whole, part []T) {
	whole = append(slices.Clone(list), mark, mark)
	return whole, whole[:len(list)]
}

// scribble writes into a list and its spare room.
func scribble[T any](list []T, mark T) {
	list = list[:cap(list)]
	for i := range list {
		list[i] = mark
	}
}
