// Package records: what a disk's bytes say.
package records

import (
	"parley/api"
	"parley/check"
	"parley/row"
)

// The kinds of records, in the document's order.
const (
	lineMore = iota + 1
	view
	all
)

// Content is what a disk says: the view, the view of which the lines are, the lines.
type Content struct {
	View, Last int
	Lines      []api.Line
}

// Read tells what a disk says, and how many of its bytes say it: what stands behind these is gone.
func Read(disk []byte) (c Content, size int) {
	for {
		inner, more, ok := first(disk[size:])
		if !ok {
			return c, size
		}
		next, ok := after(c, inner)
		if !ok || !right(next) {
			return c, size
		}
		c = next
		size += more
	}
}

// first finds the record at the start of b: what its length counts, and how many bytes the record takes in all.
func first(b []byte) (inner []byte, size int, ok bool) {
	if len(b) == 0 {
		return nil, 0, false
	}
	size = 1 + int(b[0]) + check.Size
	if len(b) < size {
		return nil, 0, false
	}
	checked, ok := check.Strip(b[:size])
	if !ok {
		return nil, 0, false
	}
	return checked[1:], size, true
}

// after is what a disk that said c says with one record more; not ok, if that is no record of the three.
func after(c Content, inner []byte) (Content, bool) {
	if len(inner) == 0 {
		return Content{}, false
	}
	rest := inner[1:]
	switch inner[0] {
	case lineMore:
		return afterLineMore(c, rest)
	case view:
		return afterView(c, rest)
	case all:
		return afterAll(rest)
	}
	return Content{}, false
}

func afterLineMore(c Content, b []byte) (Content, bool) {
	l, rest, ok := row.TakeLine(b)
	if !ok || len(rest) > 0 {
		return Content{}, false
	}
	c.Lines = append(c.Lines, l)
	return c, true
}

func afterView(c Content, b []byte) (Content, bool) {
	if len(b) != 1 {
		return Content{}, false
	}
	c.View = int(b[0])
	return c, true
}

func afterAll(b []byte) (Content, bool) {
	if len(b) == 0 {
		return Content{}, false
	}
	lines, rest, ok := row.Take(b[1:])
	if !ok || len(rest) > 0 {
		return Content{}, false
	}
	return Content{View: int(b[0]), Last: int(b[0]), Lines: lines}, true
}

// right: a record counts only if what the disk says with it may be said.
func right(c Content) bool {
	return c.Last <= c.View && c.View <= api.MaxView && row.Right(c.Lines)
}
