package frames

import "parley/api"

// Frame is what comes and goes on the line: one of the types below, one for each kind.
type Frame interface {
	// plain is the frame as package api has it, with the fields of all kinds.
	plain() api.Frame
}

// OfKeeper is a frame that one keeper sends to another.
type OfKeeper interface {
	Frame
	Stamped() Stamp
}

// Stamp is what every frame among keepers bears: who sent it, and of which view it is.
type Stamp struct{ From, View int }

// Stamped tells the stamp of a frame of which only this much is known.
func (s Stamp) Stamped() Stamp { return s }

// The types, in the order of the document's table.
type (
	Say struct {
		Line api.Line
	}
	Prepare struct {
		Stamp
		Place, Agreed int
		Line          api.Line
	}
	Hold struct {
		Stamp
		Place int
	}
	Beat struct {
		Stamp
		Agreed int
	}
	Change struct {
		Stamp
	}
	Yield struct {
		Stamp
		Agreed, Last int
		Lines        []api.Line
	}
	Begin struct {
		Stamp
		Agreed int
		Lines  []api.Line
	}
	Lag struct {
		Stamp
	}
	Told struct {
		View, Place int
		Line        api.Line
	}
)

// Read tells what came on the line, if b is just the bytes of a right frame.
func Read(b []byte) (Frame, bool) {
	f, ok := Unpack(b)
	if !ok {
		return nil, false
	}
	return typed(f), true
}

// Bytes makes the bytes of a right frame.
func Bytes(f Frame) []byte {
	b, _ := Pack(f.plain())
	return b
}

// typed gives a right frame the type of its kind.
func typed(f api.Frame) Frame {
	stamp := Stamp{From: f.From, View: f.View}
	switch f.Kind {
	case say:
		return Say{Line: f.Line}
	case prepare:
		return Prepare{Stamp: stamp, Place: f.Place, Agreed: f.Agreed, Line: f.Line}
	case hold:
		return Hold{Stamp: stamp, Place: f.Place}
	case beat:
		return Beat{Stamp: stamp, Agreed: f.Agreed}
	case change:
		return Change{Stamp: stamp}
	case yield:
		return Yield{Stamp: stamp, Agreed: f.Agreed, Last: f.Last, Lines: f.Lines}
	case begin:
		return Begin{Stamp: stamp, Agreed: f.Agreed, Lines: f.Lines}
	case lag:
		return Lag{Stamp: stamp}
	}
	return Told{View: f.View, Place: f.Place, Line: f.Line}
}

func (f Say) plain() api.Frame {
	return api.Frame{Kind: say, Line: f.Line}
}

func (f Prepare) plain() api.Frame {
	return api.Frame{Kind: prepare, From: f.From, View: f.View, Place: f.Place, Agreed: f.Agreed, Line: f.Line}
}

func (f Hold) plain() api.Frame {
	return api.Frame{Kind: hold, From: f.From, View: f.View, Place: f.Place}
}

func (f Beat) plain() api.Frame {
	return api.Frame{Kind: beat, From: f.From, View: f.View, Agreed: f.Agreed}
}

func (f Change) plain() api.Frame {
	return api.Frame{Kind: change, From: f.From, View: f.View}
}

func (f Yield) plain() api.Frame {
	return api.Frame{Kind: yield, From: f.From, View: f.View, Agreed: f.Agreed, Last: f.Last, Lines: f.Lines}
}

func (f Begin) plain() api.Frame {
	return api.Frame{Kind: begin, From: f.From, View: f.View, Agreed: f.Agreed, Lines: f.Lines}
}

func (f Lag) plain() api.Frame {
	return api.Frame{Kind: lag, From: f.From, View: f.View}
}

func (f Told) plain() api.Frame {
	return api.Frame{Kind: told, View: f.View, Place: f.Place, Line: f.Line}
}
