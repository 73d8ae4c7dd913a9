package frames

import (
	"parley/api"
	"parley/check"
	"parley/row"
)

// headSize: every kind's bytes begin with the kind and the five numbers, had or not.
const headSize = 6

// Pack makes the bytes of a frame, if it is right.
func Pack(f api.Frame) ([]byte, bool) {
	if !right(f) {
		return nil, false
	}
	b := []byte{byte(f.Kind), byte(f.From), byte(f.View), byte(f.Place), byte(f.Agreed), byte(f.Last)}
	fields := fieldsOf(f.Kind)
	if fields&hasLine != 0 {
		b = row.AppendLine(b, f.Line)
	}
	if fields&hasLines != 0 {
		b = row.Append(b, f.Lines)
	}
	return check.Append(b), true
}

// Unpack reads a frame, if b is just the bytes of a right one.
func Unpack(b []byte) (api.Frame, bool) {
	content, ok := check.Strip(b)
	if !ok || len(content) < headSize {
		return api.Frame{}, false
	}
	f := takeHead(content)
	rest, ok := takeLines(&f, content[headSize:])
	if !ok || len(rest) > 0 || !right(f) {
		return api.Frame{}, false
	}
	return f, true
}

func takeHead(b []byte) api.Frame {
	return api.Frame{
		Kind:   int(b[0]),
		From:   int(b[1]),
		View:   int(b[2]),
		Place:  int(b[3]),
		Agreed: int(b[4]),
		Last:   int(b[5]),
	}
}

// takeLines reads into f what its kind has behind the head.
func takeLines(f *api.Frame, b []byte) (rest []byte, ok bool) {
	rest, ok = b, true
	fields := fieldsOf(f.Kind)
	if fields&hasLine != 0 {
		f.Line, rest, ok = row.TakeLine(rest)
	}
	if fields&hasLines != 0 {
		f.Lines, rest, ok = row.Take(rest)
	}
	return rest, ok
}
