package frames

import (
	"parley/api"
	"parley/row"
)

// right tells whether each field of f is as the row of its kind says.
func right(f api.Frame) bool {
	fields := fieldsOf(f.Kind)
	return fields != 0 &&
		fits(fields&hasFrom, f.From, api.MaxKeepers-1) &&
		fits(fields&hasView, f.View, api.MaxView) &&
		fits(fields&hasPlace, f.Place, api.MaxLines) &&
		f.Place >= leastPlace(f.Kind) &&
		fits(fields&hasAgreed, f.Agreed, api.MaxLines) &&
		fits(fields&hasLast, f.Last, api.MaxView) &&
		fitsLine(f, fields&hasLine) &&
		fitsLines(f, fields&hasLines)
}

// fits: a number that the kind does not have is 0, like one that it has and that says nothing.
func fits(has, value, greatest int) bool {
	if has == 0 {
		return value == 0
	}
	return value >= 0 && value <= greatest
}

func fitsLine(f api.Frame, has int) bool {
	if has == 0 {
		return f.Line == api.Line{}
	}
	if f.Kind == told && f.Line.Body != "" {
		return false
	}
	return row.RightLine(f.Line)
}

func fitsLines(f api.Frame, has int) bool {
	if has == 0 {
		return len(f.Lines) == 0
	}
	return row.Right(f.Lines)
}
