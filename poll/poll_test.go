package poll

import (
	"reflect"
	"runtime"
	"slices"
	"testing"

	"parley/api"
	"parley/frames"
)

// lines: so many, by which it can be told whose they are.
func lines(of, n int) []api.Line {
	var all []api.Line
	for turn := 1; turn <= n; turn++ {
		all = append(all, api.Line{Client: of + 1, Turn: turn})
	}
	return all
}

func yieldOf(from, last, n int) frames.Yield {
	return frames.Yield{Stamp: frames.Stamp{From: from, View: 7}, Last: last, Lines: lines(from, n)}
}

// orders: a list in all orders that there are.
func orders[T any](list []T) [][]T {
	if len(list) == 0 {
		return [][]T{nil}
	}
	var all [][]T
	for i := range list {
		rest := slices.Concat(list[:i], list[i+1:])
		for _, order := range orders(rest) {
			all = append(all, append([]T{list[i]}, order...))
		}
	}
	return all
}

func TestTheBestInAnyOrder(t *testing.T) {
	for _, c := range []struct {
		name   string
		yields []frames.Yield
		want   int
	}{
		{"one alone", []frames.Yield{yieldOf(3, 0, 0)}, 3},
		{"the greatest Last", []frames.Yield{yieldOf(0, 1, 9), yieldOf(1, 2, 8), yieldOf(2, 3, 1), yieldOf(3, 0, 20), yieldOf(4, 2, 7)}, 2},
		{"the most lines", []frames.Yield{yieldOf(0, 2, 3), yieldOf(1, 2, 4), yieldOf(2, 2, 5), yieldOf(3, 1, 20), yieldOf(4, 2, 4)}, 2},
		{"the least From", []frames.Yield{yieldOf(4, 2, 3), yieldOf(3, 2, 3), yieldOf(2, 2, 3), yieldOf(1, 2, 2), yieldOf(0, 1, 3)}, 2},
		{"all alike", []frames.Yield{yieldOf(4, 5, 1), yieldOf(3, 5, 1), yieldOf(0, 5, 1), yieldOf(1, 5, 1), yieldOf(2, 5, 1)}, 0},
		{"none has lines", []frames.Yield{yieldOf(4, 0, 0), yieldOf(2, 1, 0), yieldOf(3, 1, 0)}, 2},
		{"the bounds", []frames.Yield{yieldOf(0, 99, 20), yieldOf(1, 100, 19), yieldOf(2, 100, 20)}, 2},
	} {
		for _, order := range orders(c.yields) {
			if got := best(order); got.From != c.want {
				t.Errorf("%s: of %v the best is that of %d, want %d", c.name, order, got.From, c.want)
			}
			var p Poll
			for _, y := range order {
				p.HearYield(y)
			}
			if got := p.Best(); len(got) > 0 && got[0].Client != c.want+1 {
				t.Errorf("%s: of %v the best lines are %v, want those of %d", c.name, order, got, c.want)
			}
		}
	}
}

func TestTheBestLeavesTheRest(t *testing.T) {
	yields := []frames.Yield{yieldOf(4, 2, 3), yieldOf(0, 2, 4), yieldOf(2, 1, 9)}
	was := []frames.Yield{yieldOf(4, 2, 3), yieldOf(0, 2, 4), yieldOf(2, 1, 9)}
	running := runtime.NumGoroutine()
	for range 100 {
		best(yields)
	}
	if !reflect.DeepEqual(yields, was) {
		t.Errorf("the Yields have changed: %v, were %v", yields, was)
	}
	// One that has said that it is done may need a moment to be gone.
	for n := 0; runtime.NumGoroutine() > running; n++ {
		if n == 100000 {
			t.Fatalf("%d goroutines are left", runtime.NumGoroutine()-running)
		}
		runtime.Gosched()
	}
}

func TestChangesAreCountedByKeeper(t *testing.T) {
	var p Poll
	for i, from := range []int{2, 2, 0, 2, 0, 4, 4, 1, 3, 3} {
		p.HearChange(frames.Change{Stamp: frames.Stamp{From: from, View: 7}})
		if want := []int{1, 1, 2, 2, 2, 3, 3, 4, 5, 5}[i]; p.Changes() != want {
			t.Errorf("behind the Change %d: %d keepers, want %d", i, p.Changes(), want)
		}
	}
	if p.Yields() != 0 {
		t.Errorf("a Change is no Yield")
	}
}

func TestALaterYieldTakesThePlace(t *testing.T) {
	var p Poll
	first, later, other := yieldOf(3, 5, 9), yieldOf(3, 1, 2), yieldOf(4, 1, 1)
	first.Agreed, later.Agreed, other.Agreed = 8, 1, 2
	for i, c := range []struct {
		heard          frames.Yield
		yields, agreed int
		best           []api.Line
	}{
		{first, 1, 8, first.Lines},
		{other, 2, 8, first.Lines},
		{later, 2, 2, later.Lines},
		{later, 2, 2, later.Lines},
		{first, 2, 8, first.Lines},
	} {
		p.HearYield(c.heard)
		if p.Yields() != c.yields || p.Agreed() != c.agreed || !slices.Equal(p.Best(), c.best) {
			t.Errorf("behind the Yield %d: %d, agreed %d, %v, want %d, %d, %v", i, p.Yields(), p.Agreed(), p.Best(), c.yields, c.agreed, c.best)
		}
	}
	if p.Changes() != 0 {
		t.Errorf("a Yield is no Change")
	}
}
