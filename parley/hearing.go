package parley

import (
	"parley/api"
	"parley/frames"
)

// accepts tells whether a frame may come to this keeper at all, whatever its view is.
func (k *Keeper) accepts(came frames.Frame) bool {
	switch f := came.(type) {
	case frames.Say:
		return true
	case frames.Prepare:
		return k.isOfItsHead(f.Stamp)
	case frames.Beat:
		return k.isOfItsHead(f.Stamp)
	case frames.Begin:
		return k.isOfItsHead(f.Stamp)
	case frames.OfKeeper:
		return k.isOther(f.Stamped().From)
	}
	return false
}

// isOfItsHead: some kinds only the head of a view, which is another keeper, may send.
func (k *Keeper) isOfItsHead(s frames.Stamp) bool {
	return k.isOther(s.From) && s.From == k.headOf(s.View)
}

// hear does what a frame asks for; what is to be sent then.
func (k *Keeper) hear(came frames.Frame) []api.Out {
	switch f := came.(type) {
	case frames.Say:
		return k.hearSay(f.Line)
	case frames.OfKeeper:
		return k.hearKeeper(f)
	}
	return nil
}

func (k *Keeper) hearKeeper(came frames.OfKeeper) []api.Out {
	stamp := came.Stamped()
	switch {
	case stamp.View < k.view():
		return k.hearEarlier(stamp)
	case stamp.View > k.view():
		return k.hearLater(came)
	}
	return k.hearOwn(came)
}

// hearEarlier: who sent it has missed a view, whatever it says.
func (k *Keeper) hearEarlier(stamp frames.Stamp) []api.Out {
	switch {
	case !k.inView():
		return answer(stamp, k.change())
	case k.isHead():
		return answer(stamp, k.begin())
	}
	return nil
}

// hearLater: this keeper has missed a view; if that has begun, its head is to tell all.
func (k *Keeper) hearLater(came frames.OfKeeper) []api.Out {
	switch f := came.(type) {
	case frames.Change, frames.Yield:
		return k.changeAndHear(f)
	case frames.Begin:
		return k.hearBegin(f)
	}
	return k.lag(came.Stamped())
}

func (k *Keeper) changeAndHear(came frames.OfKeeper) []api.Out {
	changes := k.changeTo(came.Stamped().View)
	if k.disk.Failed() {
		return nil
	}
	return append(changes, k.hearOwn(came)...)
}

// hearOwn hears a frame of the keeper's own view.
func (k *Keeper) hearOwn(came frames.OfKeeper) []api.Out {
	switch {
	case k.isHead():
		return k.hearAsHead(came)
	case k.inView():
		return k.hearInView(came)
	}
	return k.hearBetween(came)
}

func (k *Keeper) hearAsHead(came frames.OfKeeper) []api.Out {
	switch f := came.(type) {
	case frames.Hold:
		return k.hearHold(f)
	case frames.Change, frames.Yield, frames.Lag:
		return answer(f.Stamped(), k.begin())
	}
	return nil
}

func (k *Keeper) hearInView(came frames.OfKeeper) []api.Out {
	switch f := came.(type) {
	case frames.Prepare:
		return k.hearPrepare(f)
	case frames.Beat:
		return k.hearBeat(f)
	case frames.Begin:
		return k.hearBegin(f)
	}
	return nil
}

func (k *Keeper) hearBetween(came frames.OfKeeper) []api.Out {
	switch f := came.(type) {
	case frames.Change:
		return k.hearChange(f)
	case frames.Yield:
		return k.hearYield(f)
	case frames.Begin:
		return k.hearBegin(f)
	}
	return nil
}
