// Package row: lines, one behind the other, as frames and disks both hold them: which are right, and their bytes.
package row

import "parley/api"

// RightLine tells whether a line, by itself, is right.
func RightLine(l api.Line) bool {
	return l.Client >= 1 && l.Client <= api.MaxClient &&
		l.Turn >= 1 && l.Turn <= api.MaxTurn &&
		len(l.Body) <= api.MaxBody
}

// Greatest is the greatest turn that a client has among the lines; 0, which is no turn, if it has none.
func Greatest(lines []api.Line, client int) int {
	turn := 0
	for _, l := range lines {
		if l.Client == client {
			turn = max(turn, l.Turn)
		}
	}
	return turn
}

// Right tells whether the lines are right, not too many, and each client's turns rise among them.
func Right(lines []api.Line) bool {
	if len(lines) > api.MaxLines {
		return false
	}
	for i, l := range lines {
		if !RightLine(l) || l.Turn <= Greatest(lines[:i], l.Client) {
			return false
		}
	}
	return true
}

// AppendLine puts the bytes of a right line behind b.
func AppendLine(b []byte, l api.Line) []byte {
	b = append(b, byte(l.Client), byte(l.Turn), byte(len(l.Body)))
	return append(b, l.Body...)
}

// Append puts behind b how many right lines there are, and the bytes of each.
func Append(b []byte, lines []api.Line) []byte {
	b = append(b, byte(len(lines)))
	for _, l := range lines {
		b = AppendLine(b, l)
	}
	return b
}

// TakeLine reads the line at the start of b, right or not; rest is what stands behind it.
func TakeLine(b []byte) (l api.Line, rest []byte, ok bool) {
	if len(b) < 3 {
		return api.Line{}, nil, false
	}
	size := int(b[2])
	rest = b[3:]
	if len(rest) < size {
		return api.Line{}, nil, false
	}
	l = api.Line{Client: int(b[0]), Turn: int(b[1]), Body: string(rest[:size])}
	return l, rest[size:], true
}

// Take reads how many lines there are, at the start of b, and these, right or not; rest is what stands behind them.
func Take(b []byte) (lines []api.Line, rest []byte, ok bool) {
	if len(b) == 0 {
		return nil, nil, false
	}
	rest = b[1:]
	for range int(b[0]) {
		var l api.Line
		if l, rest, ok = TakeLine(rest); !ok {
			return nil, nil, false
		}
		lines = append(lines, l)
	}
	return lines, rest, true
}
