// Package frames: which frames are right, and their bytes.
package frames

// The kinds of frames, in the order of the document's table; package api gives them the same numbers.
const (
	say = iota + 1
	prepare
	hold
	beat
	change
	yield
	begin
	lag
	told
)

// The fields that a kind may have, each a bit, so that a row of the table is one number.
const (
	hasFrom = 1 << iota
	hasView
	hasPlace
	hasAgreed
	hasLast
	hasLine
	hasLines
)

// fieldsOf is a kind's row of the table: 0, which is nobody's row, of a kind that there is not.
func fieldsOf(kind int) int {
	switch kind {
	case say:
		return hasLine
	case prepare:
		return hasFrom | hasView | hasPlace | hasAgreed | hasLine
	case hold:
		return hasFrom | hasView | hasPlace
	case beat:
		return hasFrom | hasView | hasAgreed
	case change, lag:
		return hasFrom | hasView
	case yield:
		return hasFrom | hasView | hasAgreed | hasLast | hasLines
	case begin:
		return hasFrom | hasView | hasAgreed | hasLines
	case told:
		return hasView | hasPlace | hasLine
	}
	return 0
}

// leastPlace: a Hold may say that there is nothing yet; a line has a place.
func leastPlace(kind int) int {
	if kind == prepare || kind == told {
		return 1
	}
	return 0
}
