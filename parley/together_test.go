package parley_test

import (
	"math/rand"
	"slices"
	"testing"

	"parley/api"
	"parley/parley"
)

// A company: keepers in one view, what is on its way among them, and the row that has been seen to be agreed.
type company struct {
	t       *testing.T
	r       *rand.Rand
	keepers []*parley.Keeper
	way     []api.Out
	agreed  []api.Line
	told    map[api.Line]int // by the line that was said, the place
}

func newCompany(t *testing.T, keepers int, seed int64) *company {
	c := &company{t: t, r: rand.New(rand.NewSource(seed)), told: map[api.Line]int{}}
	for n := range keepers {
		c.keepers = append(c.keepers, openAs(t, keepers, n, ""))
	}
	return c
}

// done takes what a keeper answered: a dead one is opened again with some of the record that failed.
func (c *company) done(n int, out []api.Out, e api.Errno) {
	c.t.Helper()
	switch e {
	case api.OK:
		c.way = append(c.way, out...)
	case api.ErrCrash:
		c.keepers[n] = openAs(c.t, len(c.keepers), n, string(c.keepers[n].Disk(c.r.Intn(20))))
	default:
		c.t.Errorf("P6: keeper %d answers %d", n, e)
	}
	c.look(n)
}

// look: what is agreed at one keeper is what was agreed at any, as far as both reach.
func (c *company) look(n int) {
	c.t.Helper()
	got := c.keepers[n].Agreed()
	both := min(len(got), len(c.agreed))
	if !slices.Equal(got[:both], c.agreed[:both]) {
		c.t.Errorf("P9: agreed at keeper %d is %v, elsewhere %v", n, got, c.agreed)
	}
	if len(got) > len(c.agreed) {
		c.agreed = got
	}
}

func (c *company) hears(n int, b []byte) {
	c.t.Helper()
	out, e := c.keepers[n].Heard(b)
	c.done(n, out, e)
}

func (c *company) tickHead() {
	c.t.Helper()
	out, e := c.keepers[0].Tick()
	c.done(0, out, e)
}

// deliver lets one of the frames on their way arrive, whichever it is.
func (c *company) deliver(i int) {
	c.t.Helper()
	o := c.way[i]
	c.way = slices.Delete(c.way, i, i+1)
	if !o.Client {
		c.hears(o.To, o.Bytes)
		return
	}
	f, _ := parley.Unpack(o.Bytes)
	at, ok := c.told[f.Line]
	if ok && at != f.Place {
		c.t.Errorf("P9: %v was told the place %d, and now %d", f.Line, at, f.Place)
	}
	c.told[f.Line] = f.Place
}

// trouble: a frame is lost, doubled or late, or a disk will fail.
func (c *company) trouble() {
	c.t.Helper()
	if len(c.way) == 0 {
		c.tickHead()
		return
	}
	i := c.r.Intn(len(c.way))
	switch c.r.Intn(6) {
	case 0:
		c.way = slices.Delete(c.way, i, i+1)
	case 1:
		c.way = append(c.way, c.way[i])
	case 2:
		c.keepers[c.r.Intn(len(c.keepers))].Arm(1 + c.r.Intn(2))
	case 3:
		c.tickHead()
	default:
		c.deliver(i)
	}
}

func TestP9KeepersAgreeInOneView(t *testing.T) {
	for seed := range int64(60) {
		keepers := 3 + 2*int(seed%2)
		c := newCompany(t, keepers, seed)
		for turn := 1; turn <= 10; turn++ {
			for range 2 {
				c.hears(0, packed(t, say(line(1, turn, "x"))))
				c.hears(0, packed(t, say(line(2, turn, "y"))))
			}
			for range 30 {
				c.trouble()
			}
		}
		c.settle()
	}
}

// settle: with no more trouble every keeper comes to hold all lines, and every line that was agreed is told to who says it again.
func (c *company) settle() {
	c.t.Helper()
	for n := range c.keepers {
		c.keepers[n].Arm(0)
	}
	for range 60 {
		c.tickHead()
		for len(c.way) > 0 {
			c.deliver(0)
		}
	}
	all := c.keepers[0].State().Lines
	for n, k := range c.keepers {
		if s := k.State(); s != (api.State{Lines: all, Agreed: all}) {
			c.t.Errorf("P9: keeper %d of %d lines says %+v", n, all, s)
		}
	}
	for i, l := range c.agreed {
		c.hears(0, packed(c.t, say(l)))
		c.deliver(0)
		l.Body = ""
		if c.told[l] != i+1 {
			c.t.Errorf("P7: %v stands at %d, and is told %d", l, i+1, c.told[l])
		}
	}
}
