package parley

import (
	"slices"

	"parley/api"
	"parley/frames"
	"parley/row"
)

// hearSay: only the head gives a line its place, so that there is one order of lines.
func (k *Keeper) hearSay(l api.Line) []api.Out {
	switch {
	case !k.isHead():
		return nil
	case l.Turn <= row.Greatest(k.lines(), l.Client):
		return k.tellAgain(l)
	case len(k.lines()) == api.MaxLines:
		return nil
	case !k.disk.LineMore(l):
		return nil
	}
	return k.toOthers(k.prepare(len(k.lines())))
}

// tellAgain: a client that says a line again may not have been told.
func (k *Keeper) tellAgain(l api.Line) []api.Out {
	for i, agreed := range k.agreedLines() {
		if agreed.Client == l.Client && agreed.Turn == l.Turn {
			return []api.Out{k.told(i + 1)}
		}
	}
	return nil
}

// hearHold: what was agreed by it is told to the clients.
func (k *Keeper) hearHold(f frames.Hold) []api.Out {
	if f.Place <= len(k.lines()) {
		k.holds[f.From] = max(k.holds[f.From], f.Place)
	}
	was := k.agreed
	k.agreed = max(was, k.heldByFew())
	var out []api.Out
	for place := was + 1; place <= k.agreed; place++ {
		out = append(out, k.told(place))
	}
	return out
}

// heldByFew is the greatest place that few others hold.
func (k *Keeper) heldByFew() int {
	var places []int
	for _, other := range k.others() {
		places = append(places, k.holds[other])
	}
	slices.Sort(places)
	return places[len(places)-k.few()]
}

// remindOthers: frames may have been lost, so each other keeper is sent what it does not hold yet.
func (k *Keeper) remindOthers() []api.Out {
	var out []api.Out
	for _, other := range k.others() {
		out = append(out, toKeeper(other, k.reminder(other)))
	}
	return out
}

func (k *Keeper) reminder(other int) frames.Frame {
	if held := k.holds[other]; held < len(k.lines()) {
		return k.prepare(held + 1)
	}
	return frames.Beat{Stamp: k.stamp(), Agreed: k.agreed}
}

func (k *Keeper) prepare(place int) frames.Prepare {
	return frames.Prepare{Stamp: k.stamp(), Place: place, Agreed: k.agreed, Line: k.lines()[place-1]}
}

func (k *Keeper) begin() frames.Begin {
	return frames.Begin{Stamp: k.stamp(), Agreed: k.agreed, Lines: k.lines()}
}

// told makes what the client of the line at a place is sent: it knows its own body.
func (k *Keeper) told(place int) api.Out {
	l := k.lines()[place-1]
	l.Body = ""
	return toClient(frames.Told{View: k.view(), Place: place, Line: l})
}
