package parley_test

import (
	"testing"

	"parley/api"
)

// mayCome says by P6 which frames a keeper takes.
func mayCome(f api.Frame, keepers, me int) bool {
	switch f.Kind {
	case api.Say:
		return true
	case api.Told:
		return false
	}
	if f.From == me || f.From >= keepers {
		return false
	}
	headOnly := f.Kind == api.Prepare || f.Kind == api.Beat || f.Kind == api.Begin
	return !headOnly || f.View%keepers == f.From
}

func TestP6WhichFramesAreRefused(t *testing.T) {
	for _, keepers := range []int{3, 5} {
		for me := range keepers {
			for _, f := range allKinds() {
				for from := range 5 {
					for _, view := range []int{0, 1, 2, 3, 4, 5, 6, 7, 98, 99, 100} {
						if f.Kind != api.Say {
							f.View = view
						}
						if f.Kind != api.Say && f.Kind != api.Told {
							f.From = from
						}
						wantTaken(t, f, keepers, me)
					}
				}
			}
		}
	}
}

func wantTaken(t *testing.T, f api.Frame, keepers, me int) {
	t.Helper()
	for _, disk := range []string{"", moreRecord(line(7, 1, "a")), viewRecord(2), allRecord(4)} {
		k := openAs(t, keepers, me, disk)
		same := unchanged(t, k)
		out, e := k.Heard(packed(t, f))
		if mayCome(f, keepers, me) {
			if e != api.OK {
				t.Errorf("P6: of %d keepers %d: Heard(%+v): %d", keepers, me, f, e)
			}
			continue
		}
		if len(out) != 0 || e != api.ErrFrame {
			t.Errorf("P6: of %d keepers %d: Heard(%+v): %d frames, %d, want ErrFrame", keepers, me, f, len(out), e)
		}
		same("a frame that is refused")
	}
}

func TestP6WrongBytes(t *testing.T) {
	for me := range 3 {
		k := openAs(t, 3, me, moreRecord(line(7, 1, "a")))
		same := unchanged(t, k)
		refuses(t, k, nil, api.ErrFrame)
		refuses(t, k, []byte{}, api.ErrFrame)
		refuses(t, k, []byte("no frame"), api.ErrFrame)
		for _, f := range allKinds() {
			b := packed(t, f)
			for i := range b {
				refuses(t, k, b[:i], api.ErrFrame)
				wrong := append([]byte(nil), b...)
				wrong[i] ^= 4
				refuses(t, k, wrong, api.ErrFrame)
			}
			refuses(t, k, append(b, 0), api.ErrFrame)
		}
		same("wrong bytes")
	}
}

// What is sent bears the number of who sends it, and its view, in whatever view it is.
func TestP6FromAndView(t *testing.T) {
	a, b := line(7, 1, "a"), line(8, 1, "b")
	for _, keepers := range []int{3, 5} {
		for _, view := range []int{0, 1, 2, 3, 4, 5, 6, 99, 100} {
			me := view % keepers
			var others []int
			for n := range keepers {
				if n != me {
					others = append(others, n)
				}
			}
			k := openAs(t, keepers, me, allRecord(view, a))
			hears(t, k, say(b), toEach(prepare(me, view, 2, 0, b), others...)...)
			ticks(t, k, toEach(prepare(me, view, 1, 0, a), others...)...)
			for _, n := range others {
				hears(t, k, lag(n, view), to(n, begin(me, view, 0, a, b)))
				f := openAs(t, keepers, n, allRecord(view, a))
				hears(t, f, prepare(me, view, 2, 0, b), to(me, hold(n, view, 2)))
				hears(t, f, beat(me, view, 3), to(me, lag(n, view)))
			}
			for i, n := range others {
				if i == keepers/2-1 {
					hears(t, k, hold(n, view, 1), told(view, 1, a))
				} else {
					hears(t, k, hold(n, view, 1))
				}
			}
			hears(t, k, say(a), told(view, 1, a))
		}
	}
}

// Frames of the keeper's own view that say nothing to a keeper in its state.
func TestP9InAnotherState(t *testing.T) {
	a, b := line(7, 1, "a"), line(8, 1, "b")
	inView, between, betweenLater := allRecord(4, a), moreRecord(a)+viewRecord(4), allRecord(3, a)+viewRecord(4)
	toTheHead := []api.Frame{hold(0, 4, 0), hold(0, 4, 1), hold(0, 4, 2), lag(0, 4), say(a), say(b), say(line(7, 2, ""))}
	toWhoFollows := []api.Frame{prepare(1, 4, 1, 1, a), prepare(1, 4, 2, 1, b), prepare(1, 4, 3, 1, b), beat(1, 4, 0), beat(1, 4, 1), beat(1, 4, 2)}
	for _, c := range []struct {
		me      int
		disk    string
		nothing []api.Frame
	}{
		{2, inView, toTheHead},
		{2, inView, []api.Frame{change(0, 4), yield(0, 4, 1, 3, b)}},
		{2, between, toTheHead},
		{2, between, toWhoFollows},
		{2, between, []api.Frame{yield(0, 4, 1, 3, b)}},
		{2, betweenLater, toTheHead},
		{2, betweenLater, toWhoFollows},
		{1, between, toTheHead},
		{1, betweenLater, toTheHead},
	} {
		for _, f := range c.nothing {
			k := openAs(t, 3, c.me, c.disk)
			same := unchanged(t, k)
			hears(t, k, f)
			same("a frame that says nothing to it")
		}
	}
}

// What is of another view neither adds a line nor lets one be agreed.
func TestP9OfAnotherView(t *testing.T) {
	a, b := line(7, 1, "a"), line(8, 1, "b")
	for _, c := range []struct {
		me     int
		frames []api.Frame
	}{
		{1, []api.Frame{hold(0, 1, 1), hold(2, 7, 1), hold(0, 100, 1)}},
		{2, []api.Frame{prepare(1, 1, 2, 2, b), prepare(1, 7, 2, 2, b), beat(1, 1, 1), beat(1, 7, 1), begin(1, 1, 2, a, b)}},
	} {
		for _, f := range c.frames {
			k := openAs(t, 3, c.me, allRecord(4, a))
			same := unchanged(t, k)
			if _, e := k.Heard(packed(t, f)); e != api.OK {
				t.Errorf("P6: Heard(%+v): %d", f, e)
			}
			same("a frame of another view")
		}
	}
}
