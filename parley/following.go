package parley

import (
	"parley/api"
	"parley/frames"
	"parley/row"
)

// hearPrepare: a place beyond the next one shows that a line was missed, and the head must tell all.
func (k *Keeper) hearPrepare(f frames.Prepare) []api.Out {
	k.waited = 0
	if f.Place == len(k.lines())+1 && !k.addLine(f.Line) {
		return nil
	}
	if f.Place > len(k.lines()) {
		return k.lag(f.Stamp)
	}
	return k.hold(f.Stamp, f.Agreed)
}

// addLine writes a line, unless its client's turns would not rise; false: it does not stand there.
func (k *Keeper) addLine(l api.Line) bool {
	return l.Turn > row.Greatest(k.lines(), l.Client) && k.disk.LineMore(l)
}

func (k *Keeper) hearBeat(f frames.Beat) []api.Out {
	k.waited = 0
	if f.Agreed > len(k.lines()) {
		return k.lag(f.Stamp)
	}
	return k.hold(f.Stamp, f.Agreed)
}

// hearBegin is of the keeper's view or of a greater one.
func (k *Keeper) hearBegin(f frames.Begin) []api.Out {
	k.waited = 0
	if k.isNews(f) && !k.beginView(f.View, f.Lines) {
		return nil
	}
	return k.hold(f.Stamp, f.Agreed)
}

// isNews: a keeper that is in the view has nothing to learn from lines that are no more than its own.
func (k *Keeper) isNews(f frames.Begin) bool {
	return f.View > k.view() || !k.inView() || len(f.Lines) > len(k.lines())
}

// hold takes what the head says is agreed, and tells it how far this keeper holds.
func (k *Keeper) hold(head frames.Stamp, agreed int) []api.Out {
	k.takeAgreed(agreed)
	return answer(head, frames.Hold{Stamp: k.stamp(), Place: len(k.lines())})
}

// lag is of the view of which something was missed, though that may not be the keeper's yet.
func (k *Keeper) lag(missed frames.Stamp) []api.Out {
	return answer(missed, frames.Lag{Stamp: frames.Stamp{From: k.config.Me, View: missed.View}})
}
