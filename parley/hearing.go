package parley

import (
	"parley/api"
	"parley/frames"
)

// accepts tells whether a frame may come to this keeper at all, whatever its view is.
func (k *Keeper) accepts(came frames.Frame) bool {
	switch f := came.(type) {
	case frames.Say:
		return true
	case frames.Prepare:
		return k.isOfItsHead(f.Stamp)
	case frames.Beat:
		return k.isOfItsHead(f.Stamp)
	case frames.Begin:
		return k.isOfItsHead(f.Stamp)
	case frames.OfKeeper:
		return k.isOther(f.Stamped().From)
	}
	return false
}

// isOfItsHead: some kinds only the head of a view, which is another keeper, may send.
func (k *Keeper) isOfItsHead(s frames.Stamp) bool {
	return k.isOther(s.From) && s.From == k.headOf(s.View)
}

// hear does what a frame asks for; what is to be sent then.
func (k *Keeper) hear(came frames.Frame) []api.Out {
	switch f := came.(type) {
	case frames.Say:
		return k.hearSay(f.Line)
	case frames.OfKeeper:
		return k.hearKeeper(f)
	}
	return nil
}

func (k *Keeper) hearKeeper(came frames.OfKeeper) []api.Out {
	switch {
	case came.Stamped().View != k.view():
		return nil
	case k.isHead():
		return k.hearAsHead(came)
	case k.inView():
		return k.hearInView(came)
	}
	return k.hearBetween(came)
}

func (k *Keeper) hearAsHead(came frames.OfKeeper) []api.Out {
	switch f := came.(type) {
	case frames.Hold:
		return k.hearHold(f)
	case frames.Change, frames.Yield, frames.Lag:
		return answer(f.Stamped(), k.begin())
	}
	return nil
}

func (k *Keeper) hearInView(came frames.OfKeeper) []api.Out {
	switch f := came.(type) {
	case frames.Prepare:
		return k.hearPrepare(f)
	case frames.Beat:
		return k.hearBeat(f)
	case frames.Begin:
		return k.hearBegin(f)
	}
	return nil
}

func (k *Keeper) hearBetween(came frames.OfKeeper) []api.Out {
	switch f := came.(type) {
	case frames.Begin:
		return k.hearBegin(f)
	}
	return nil
}
