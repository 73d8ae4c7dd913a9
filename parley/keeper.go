package parley

import (
	"parley/api"
	"parley/frames"
)

func (k *Keeper) view() int { return k.disk.Said().View }

func (k *Keeper) lines() []api.Line { return k.disk.Said().Lines }

func (k *Keeper) agreedLines() []api.Line { return k.lines()[:k.agreed] }

// few: so many others and the keeper itself are more than half.
func (k *Keeper) few() int { return k.config.Keepers / 2 }

func (k *Keeper) headOf(view int) int { return view % k.config.Keepers }

func (k *Keeper) inView() bool {
	said := k.disk.Said()
	return said.Last == said.View
}

// isHeadByNumber: of its view, whether that has begun for it or not.
func (k *Keeper) isHeadByNumber() bool { return k.headOf(k.view()) == k.config.Me }

func (k *Keeper) isHead() bool { return k.inView() && k.isHeadByNumber() }

func (k *Keeper) isOther(keeper int) bool {
	return keeper >= 0 && keeper < k.config.Keepers && keeper != k.config.Me
}

// others are the numbers of the other keepers, in their order.
func (k *Keeper) others() []int {
	var others []int
	for n := range k.config.Keepers {
		if k.isOther(n) {
			others = append(others, n)
		}
	}
	return others
}

// stamp is that of a frame about which nothing else is said.
func (k *Keeper) stamp() frames.Stamp {
	return frames.Stamp{From: k.config.Me, View: k.view()}
}

// takeAgreed: others may have agreed on more lines than this keeper has yet.
func (k *Keeper) takeAgreed(agreed int) {
	k.agreed = min(max(k.agreed, agreed), len(k.lines()))
}

// forgetView: what was heard in one view says nothing in the next.
func (k *Keeper) forgetView() {
	*k = Keeper{config: k.config, disk: k.disk, agreed: k.agreed}
}

// unlessCrashed holds back what would be sent if a record failed, and lets a dead keeper forget all but its disk.
func (k *Keeper) unlessCrashed(out []api.Out) ([]api.Out, api.Errno) {
	if !k.disk.Failed() {
		return out, api.OK
	}
	*k = Keeper{disk: k.disk}
	return nil, api.ErrCrash
}
