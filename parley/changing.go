package parley

import (
	"parley/api"
	"parley/frames"
)

// changeTo: from then on the keeper takes no part in an earlier view, even if it falls and comes back.
func (k *Keeper) changeTo(view int) []api.Out {
	if !k.disk.View(view) {
		return nil
	}
	k.forgetView()
	return k.toOthers(k.change())
}

// beginView: the keeper is in the view with these lines, whatever it had; false: the disk has failed.
func (k *Keeper) beginView(view int, lines []api.Line) bool {
	if !k.disk.All(view, lines) {
		return false
	}
	k.forgetView()
	return true
}

// hearChange: few others and the keeper itself are more than half, and none of them adds a line to an earlier view.
func (k *Keeper) hearChange(f frames.Change) []api.Out {
	k.heard.HearChange(f)
	if k.yielded || k.heard.Changes() < k.few() {
		return nil
	}
	k.yielded = true
	if k.isHeadByNumber() {
		return k.hearYield(k.yield())
	}
	return k.yieldToHead()
}

// hearYield: what is agreed is among the lines of any that are more than half.
func (k *Keeper) hearYield(f frames.Yield) []api.Out {
	if !k.isHeadByNumber() {
		return nil
	}
	k.heard.HearYield(f)
	if !k.yielded || k.heard.Yields() <= k.few() {
		return nil
	}
	agreed := k.heard.Agreed()
	if !k.beginView(k.view(), k.heard.Best()) {
		return nil
	}
	k.takeAgreed(agreed)
	return k.toOthers(k.begin())
}

// letPass: the head lets the others hear of it; the others wait for that.
func (k *Keeper) letPass() []api.Out {
	if k.isHead() {
		return k.remindOthers()
	}
	k.waited = min(k.waited+1, k.config.Patience)
	switch {
	case k.waited < k.config.Patience:
		return k.callAgain()
	case k.view() < api.MaxView:
		return k.changeTo(k.view() + 1)
	}
	return nil
}

// callAgain: between views too frames may have been lost.
func (k *Keeper) callAgain() []api.Out {
	if k.inView() {
		return nil
	}
	out := k.toOthers(k.change())
	if k.yielded && !k.isHeadByNumber() {
		out = append(out, k.yieldToHead()...)
	}
	return out
}

func (k *Keeper) change() frames.Change { return frames.Change{Stamp: k.stamp()} }

func (k *Keeper) yield() frames.Yield {
	return frames.Yield{Stamp: k.stamp(), Agreed: k.agreed, Last: k.disk.Said().Last, Lines: k.lines()}
}

func (k *Keeper) yieldToHead() []api.Out {
	return []api.Out{toKeeper(k.headOf(k.view()), k.yield())}
}
