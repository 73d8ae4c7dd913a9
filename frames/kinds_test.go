package frames

import (
	"testing"

	"parley/api"
)

func TestKindsAreThoseOfApi(t *testing.T) {
	ours := []int{say, prepare, hold, beat, change, yield, begin, lag, told}
	given := []int{api.Say, api.Prepare, api.Hold, api.Beat, api.Change, api.Yield, api.Begin, api.Lag, api.Told}
	for i, kind := range ours {
		if kind != given[i] {
			t.Errorf("the kind named %d-th is %d, that of package api %d", i, kind, given[i])
		}
		if fieldsOf(kind) == 0 {
			t.Errorf("the kind %d has no row", kind)
		}
	}
	for _, kind := range []int{-1, 0, 10, 256 + say} {
		if fieldsOf(kind) != 0 {
			t.Errorf("there is no kind %d, but a row of it", kind)
		}
	}
}
