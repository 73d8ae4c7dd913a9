package parley

import (
	"parley/api"
	"parley/frames"
	"parley/row"
)

// hearPrepare: a place beyond the next one shows that a line was missed, and the head must tell all.
func (k *Keeper) hearPrepare(f frames.Prepare) []api.Out {
	if f.Place == len(k.lines())+1 && !k.addLine(f.Line) {
		return nil
	}
	if f.Place > len(k.lines()) {
		return k.lag(f.Stamp)
	}
	return k.hold(f.Stamp, f.Agreed)
}

// addLine writes a line, unless its client's turns would not rise; false: it does not stand there.
func (k *Keeper) addLine(l api.Line) bool {
	return l.Turn > row.Greatest(k.lines(), l.Client) && k.disk.LineMore(l)
}

func (k *Keeper) hearBeat(f frames.Beat) []api.Out {
	if f.Agreed > len(k.lines()) {
		return k.lag(f.Stamp)
	}
	return k.hold(f.Stamp, f.Agreed)
}

// hearBegin: a keeper that is in the view has nothing to learn from lines that are no more than its own.
func (k *Keeper) hearBegin(f frames.Begin) []api.Out {
	news := !k.inView() || len(f.Lines) > len(k.lines())
	if news && !k.disk.All(f.View, f.Lines) {
		return nil
	}
	return k.hold(f.Stamp, f.Agreed)
}

// hold takes what the head says is agreed, and tells it how far this keeper holds.
func (k *Keeper) hold(head frames.Stamp, agreed int) []api.Out {
	k.takeAgreed(agreed)
	return answer(head, frames.Hold{Stamp: k.stamp(), Place: len(k.lines())})
}

func (k *Keeper) lag(head frames.Stamp) []api.Out {
	return answer(head, frames.Lag{Stamp: k.stamp()})
}
