package poll

import (
	"slices"
	"sync"

	"parley/frames"
)

// best lets each Yield be held against all, at the same time; no two are of one keeper, so that just one is not beaten, whoever is done first.
func best(yields []frames.Yield) frames.Yield {
	beaten := make([]bool, len(yields))
	var all sync.WaitGroup
	for i, y := range yields {
		all.Add(1)
		go func() {
			defer all.Done()
			beaten[i] = isBeaten(y, yields)
		}()
	}
	all.Wait()
	return yields[slices.Index(beaten, false)]
}

func isBeaten(y frames.Yield, yields []frames.Yield) bool {
	return slices.ContainsFunc(yields, func(other frames.Yield) bool { return beats(other, y) })
}

// beats: lines of a later view take the place of all earlier ones, and more lines of one view are the later ones.
func beats(y, other frames.Yield) bool {
	switch {
	case y.Last != other.Last:
		return y.Last > other.Last
	case len(y.Lines) != len(other.Lines):
		return len(y.Lines) > len(other.Lines)
	}
	return y.From < other.From
}
