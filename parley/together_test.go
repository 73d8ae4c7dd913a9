package parley_test

import (
	"math/rand"
	"slices"
	"testing"

	"parley/api"
	"parley/parley"
)

// A company: keepers, what is on its way among them, the row that has been seen to be agreed, and what clients were told.
type company struct {
	t        *testing.T
	r        *rand.Rand
	patience int
	keepers  []*parley.Keeper
	way      []api.Out
	agreed   []api.Line
	told     map[api.Line]int // by the line that was said, the place
	said     int
}

func newCompany(t *testing.T, keepers, patience int, seed int64) *company {
	c := &company{t: t, r: rand.New(rand.NewSource(seed)), patience: patience, told: map[api.Line]int{}}
	for n := range keepers {
		c.keepers = append(c.keepers, openPatient(t, keepers, n, patience, ""))
	}
	return c
}

// comeBack: a keeper falls, if it has not fallen yet, and is opened with what its disk has.
func (c *company) comeBack(n int) {
	c.t.Helper()
	disk := c.keepers[n].Disk(c.r.Intn(40))
	c.keepers[n] = openPatient(c.t, len(c.keepers), n, c.patience, string(disk))
}

// done takes what a keeper answered.
func (c *company) done(n int, out []api.Out, e api.Errno) {
	c.t.Helper()
	if e != api.OK && e != api.ErrCrash && e != api.ErrDead {
		c.t.Errorf("P6: keeper %d answers %d", n, e)
	}
	c.way = append(c.way, out...)
	c.look(n)
}

// look: what is agreed at one keeper is what was agreed at any, as far as both reach, and no line twice.
func (c *company) look(n int) {
	c.t.Helper()
	got := c.keepers[n].Agreed()
	both := min(len(got), len(c.agreed))
	if !slices.Equal(got[:both], c.agreed[:both]) {
		c.t.Fatalf("P12: agreed at keeper %d is %v, elsewhere %v", n, got, c.agreed)
	}
	for _, l := range got[both:] {
		same := func(m api.Line) bool { return m.Client == l.Client && m.Turn == l.Turn }
		if slices.ContainsFunc(c.agreed, same) {
			c.t.Fatalf("P12: %v is agreed twice: %v", l, got)
		}
		c.agreed = append(c.agreed, l)
	}
}

func (c *company) hears(n int, b []byte) {
	c.t.Helper()
	out, e := c.keepers[n].Heard(b)
	c.done(n, out, e)
}

func (c *company) ticks(n int) {
	c.t.Helper()
	out, e := c.keepers[n].Tick()
	c.done(n, out, e)
}

// arrive lets one of the frames on their way arrive.
func (c *company) arrive(i int) {
	c.t.Helper()
	o := c.way[i]
	c.way = slices.Delete(c.way, i, i+1)
	if !o.Client {
		c.hears(o.To, o.Bytes)
		return
	}
	f, _ := parley.Unpack(o.Bytes)
	stands := f.Place <= len(c.agreed) && c.agreed[f.Place-1].Client == f.Line.Client && c.agreed[f.Place-1].Turn == f.Line.Turn
	if !stands || o.To != f.Line.Client {
		c.t.Fatalf("P12: %d was told %+v, agreed is %v", o.To, f, c.agreed)
	}
	c.told[f.Line] = f.Place
}

// trouble: frames are lost, doubled and late, and disks will fail.
func (c *company) trouble() {
	c.t.Helper()
	if len(c.way) == 0 {
		return
	}
	i := c.r.Intn(len(c.way))
	switch n := c.r.Intn(16); {
	case n == 0:
		c.way = slices.Delete(c.way, i, i+1)
	case n == 1:
		c.way = append(c.way, c.way[i])
	case n == 2:
		c.keepers[c.r.Intn(len(c.keepers))].Arm(1 + c.r.Intn(3))
	default:
		c.arrive(i)
	}
}

// mend: all keepers are alive, and their disks fail no more.
func (c *company) mend() {
	c.t.Helper()
	for n, k := range c.keepers {
		k.Arm(0)
		if _, e := k.Heard(nil); e == api.ErrDead {
			c.comeBack(n)
		}
	}
}

// views is the greatest view of all keepers.
func (c *company) views() int {
	views := 0
	for _, k := range c.keepers {
		views = max(views, k.State().View)
	}
	return views
}

func TestP9KeepersAgreeInOneView(t *testing.T) {
	for seed := range int64(60) {
		c := newCompany(t, 3+2*int(seed%2), 5, seed)
		for turn := 1; turn <= 10; turn++ {
			for range 2 {
				c.hears(0, packed(t, say(line(1, turn, "x"))))
				c.hears(0, packed(t, say(line(2, turn, "y"))))
			}
			for range 10 {
				c.trouble()
				c.trouble()
				c.ticks(0)
				c.mend()
			}
		}
		c.settle()
	}
}

// settle: with no more trouble every keeper comes to hold all lines, and every line that was agreed is told to who says it again.
func (c *company) settle() {
	c.t.Helper()
	for range 60 {
		c.ticks(0)
		for len(c.way) > 0 {
			c.arrive(0)
		}
	}
	all := c.keepers[0].State().Lines
	for n, k := range c.keepers {
		if s := k.State(); s != (api.State{Lines: all, Agreed: all}) {
			c.t.Errorf("P9: keeper %d of %d lines says %+v", n, all, s)
		}
	}
	for i, l := range c.agreed {
		c.hears(0, packed(c.t, say(l)))
		c.arrive(0)
		l.Body = ""
		if c.told[l] != i+1 {
			c.t.Errorf("P7: %v stands at %d, and is told %d", l, i+1, c.told[l])
		}
	}
}

// storm: whatever may happen to keepers, for so many steps; their views stay below 100, and there stays room for a line.
func (c *company) storm(steps int) {
	c.t.Helper()
	for range steps {
		n := c.r.Intn(len(c.keepers))
		switch do := c.r.Intn(40); {
		case do < 2 && c.said < 18:
			c.said++
			l := line(1+c.r.Intn(3), c.said, "x")
			for range 1 + c.r.Intn(len(c.keepers)) {
				c.hears(c.r.Intn(len(c.keepers)), packed(c.t, say(l)))
			}
		case do < 7 && c.views() < 60:
			c.ticks(n)
		case do == 7:
			c.comeBack(n)
		default:
			c.trouble()
		}
	}
}

func TestP12WhatIsAgreedStaysAgreed(t *testing.T) {
	changed, agreed := 0, 0
	for seed := range int64(600) {
		c := newCompany(t, 3+2*int(seed%2), 2+int(seed/2%4), seed)
		c.storm(800)
		changed += c.views()
		agreed += len(c.agreed)
		c.mend()
		c.calm(line(9, 99, "last"))
		for n := range c.keepers {
			c.look(n)
		}
	}
	if changed < 600 || agreed < 600 {
		t.Errorf("only %d views and %d lines have come about", changed, agreed)
	}
}

// calm: time passes for all, and all that is sent is heard, in whatever order, till a line that is said again and again is told.
func (c *company) calm(l api.Line) {
	c.t.Helper()
	want := line(l.Client, l.Turn, "")
	for range 20 * c.patience {
		for n := range c.keepers {
			c.hears(n, packed(c.t, say(l)))
		}
		for n := range c.keepers {
			c.ticks(n)
		}
		for n := 0; len(c.way) > 0; n++ {
			if n == 100000 {
				c.t.Fatalf("P13: there is no end of frames: %d are on their way", len(c.way))
			}
			c.arrive(c.r.Intn(len(c.way)))
		}
		if c.told[want] > 0 {
			return
		}
	}
	c.t.Fatalf("P13: %v is not told, agreed is %v", l, c.agreed)
}

// Each keeper falls silent in turn, so that each comes to be the head, and with each of them a line is told.
func TestP13LinesAreTold(t *testing.T) {
	for _, keepers := range []int{3, 5} {
		for _, patience := range []int{2, 3, 5, 20} {
			c := newCompany(t, keepers, patience, int64(patience))
			for turn := 1; turn <= 2*keepers; turn++ {
				c.calm(line(7, turn, "x"))
				c.silence(c.views() % keepers)
			}
			if c.views() != 2*keepers || len(c.agreed) != 2*keepers {
				t.Errorf("P13: %d views, %d lines agreed, want %d", c.views(), len(c.agreed), 2*keepers)
			}
		}
	}
}

// silence: one keeper neither sends nor hears anything for as long as the others wait.
func (c *company) silence(silent int) {
	c.t.Helper()
	before := c.views()
	for c.views() == before {
		for n := range c.keepers {
			if n != silent {
				c.ticks(n)
			}
		}
		for len(c.way) > 0 {
			if !c.way[0].Client && c.way[0].To == silent {
				c.way = c.way[1:]
			} else {
				c.arrive(0)
			}
		}
	}
}

// A row that is full stays as it is through changes of views; who asks for a line of it is told.
func TestP12AFullRow(t *testing.T) {
	c := newCompany(t, 3, 2, 1)
	for turn := 1; turn <= 20; turn++ {
		c.calm(line(1, turn, "eightlet"))
	}
	for range 5 {
		c.silence(c.views() % 3)
		clear(c.told)
		c.calm(line(1, 20, "eightlet"))
		c.calm(line(1, 1, "eightlet"))
	}
	if len(c.agreed) != 20 || c.views() != 5 {
		t.Errorf("P12: %d lines, %d views", len(c.agreed), c.views())
	}
}
