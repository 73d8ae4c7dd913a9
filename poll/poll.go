// Package poll: what is heard of a view that has not begun yet, and whose lines it is to begin with.
package poll

import (
	"slices"

	"parley/api"
	"parley/frames"
)

// Poll is what a keeper between views has heard of since it changed to its view.
type Poll struct {
	changed [api.MaxKeepers]bool
	yields  []frames.Yield // at most one of each keeper
}

// HearChange: however often a keeper says it, it is one.
func (p *Poll) HearChange(f frames.Change) { p.changed[f.From] = true }

// Changes is of how many keepers a Change was heard.
func (p *Poll) Changes() int {
	n := 0
	for _, changed := range p.changed {
		if changed {
			n++
		}
	}
	return n
}

// HearYield: of one keeper's Yields only the latest counts.
func (p *Poll) HearYield(f frames.Yield) {
	p.yields = slices.DeleteFunc(p.yields, func(y frames.Yield) bool { return y.From == f.From })
	p.yields = append(p.yields, f)
}

// Yields is of how many keepers a Yield was heard.
func (p *Poll) Yields() int { return len(p.yields) }

// Agreed is the greatest that one of the Yields says is agreed.
func (p *Poll) Agreed() int {
	agreed := 0
	for _, y := range p.yields {
		agreed = max(agreed, y.Agreed)
	}
	return agreed
}

// Best are the lines of the best of the Yields, of which there must be one at least.
func (p *Poll) Best() []api.Line { return best(p.yields).Lines }
