package parley_test

import (
	"math"
	"reflect"
	"strings"
	"testing"

	"parley/api"
	"parley/parley"
)

func open(t *testing.T, disk string) *parley.Keeper {
	t.Helper()
	k, e := parley.Open(api.Config{Keepers: 3, Me: 1, Patience: 5}, []byte(disk))
	if k == nil || e != api.OK {
		t.Fatalf("P4: Open of the disk %x: %v, %d", disk, k != nil, e)
	}
	return k
}

// wantSaid: a keeper with this disk, of whose bytes the first ones are its own.
func wantSaid(t *testing.T, disk, gone string, want api.State) {
	t.Helper()
	k := open(t, disk+gone)
	if got := k.State(); got != want {
		t.Errorf("P4, P11: of the disk %x: %+v, want %+v", disk+gone, got, want)
	}
	if got := k.Agreed(); len(got) != 0 {
		t.Errorf("P4, P11: of the disk %x: %v are agreed already", disk+gone, got)
	}
	for _, keep := range []int{math.MinInt, -1, 0, 1, 2, 1000, math.MaxInt} {
		if got := k.Disk(keep); string(got) != disk {
			t.Errorf("P5: Disk(%d) of the disk %x: %x, want %x", keep, disk+gone, got, disk)
		}
	}
}

func rightConfigs() []api.Config {
	var right []api.Config
	for _, keepers := range []int{3, 5} {
		for me := range keepers {
			for patience := 2; patience <= 20; patience++ {
				right = append(right, api.Config{Keepers: keepers, Me: me, Patience: patience})
			}
		}
	}
	return right
}

func TestP4Configurations(t *testing.T) {
	right := map[api.Config]int{}
	for _, c := range rightConfigs() {
		right[c]++
	}
	far := farNumbers()
	for keepers := -1; keepers < 9; keepers++ {
		for me := -1; me < 9; me++ {
			for patience := -1; patience < 24; patience++ {
				c := api.Config{Keepers: keepers, Me: me, Patience: patience}
				wantOpened(t, c, right[c] > 0)
			}
		}
	}
	for _, n := range far {
		wantOpened(t, api.Config{Keepers: n, Me: 0, Patience: 5}, false)
		wantOpened(t, api.Config{Keepers: 3, Me: n, Patience: 5}, false)
		wantOpened(t, api.Config{Keepers: 3, Me: 0, Patience: n}, false)
		wantOpened(t, api.Config{Keepers: n, Me: n, Patience: n}, false)
	}
}

// wantOpened: a configuration is held against the rules alone, whatever the disk is.
func wantOpened(t *testing.T, c api.Config, want bool) {
	t.Helper()
	for _, disk := range []string{"", record("\x02\x03"), "no record"} {
		k, e := parley.Open(c, []byte(disk))
		if want && (k == nil || e != api.OK) {
			t.Errorf("P4: Open(%+v): %v, %d, but it is a configuration", c, k != nil, e)
		}
		if !want && (k != nil || e != api.ErrConfig) {
			t.Errorf("P4: Open(%+v): %v, %d, but it is no configuration", c, k != nil, e)
		}
	}
}

func TestP4EachKeeperReadsAlike(t *testing.T) {
	disk := record("\x01\x07\x01\x01a") + record("\x02\x03")
	for _, c := range rightConfigs() {
		k, e := parley.Open(c, []byte(disk))
		if e != api.OK || k.State() != (api.State{View: 3, Lines: 1}) || string(k.Disk(0)) != disk {
			t.Errorf("P4: Open(%+v) of the disk %x: %d", c, disk, e)
		}
	}
}

func TestP4Records(t *testing.T) {
	more, second, other := record("\x01\x07\x01\x01a"), record("\x01\x07\x02\x00"), record("\x01\x09\x63\x08eightlet")
	view, all := record("\x02\x03"), record("\x03\x02\x02\x01\x01\x00\x02\x05\x03xyz")
	for _, c := range []struct {
		disk string
		want api.State
	}{
		{"", api.State{}},
		{more, api.State{Lines: 1}},
		{more + second + other, api.State{Lines: 3}},
		{view, api.State{View: 3}},
		{record("\x02\x64"), api.State{View: 100}},
		{view + record("\x02\x00"), api.State{}},
		{more + view + second, api.State{View: 3, Lines: 2}},
		{all, api.State{View: 2, Last: 2, Lines: 2}},
		{more + second + other + all, api.State{View: 2, Last: 2, Lines: 2}},
		{second + all + more, api.State{View: 2, Last: 2, Lines: 3}},
		{all + view, api.State{View: 3, Last: 2, Lines: 2}},
		{all + view + record("\x02\x02"), api.State{View: 2, Last: 2, Lines: 2}},
		{view + all, api.State{View: 2, Last: 2, Lines: 2}},
		{all + record("\x03\x01\x00"), api.State{View: 1, Last: 1}},
		{more + record("\x03\x00\x00"), api.State{}},
		{record("\x03\x64\x14" + lineBytes(20, "eightlet")), api.State{View: 100, Last: 100, Lines: 20}},
		{record("\x03\x05\x13"+lineBytes(19, "")) + more, api.State{View: 5, Last: 5, Lines: 20}},
	} {
		for _, gone := range []string{"", "x", "\x00", record("") + more, view[:len(view)-1]} {
			wantSaid(t, c.disk, gone, c.want)
		}
	}
}

func TestP4WrongRecords(t *testing.T) {
	behind := record("\x02\x63")
	for _, inner := range []string{
		"", "\x00", "\x04", "\xff", "\x04\x01", "\x00\x01",
		"\x01", "\x01\x07", "\x01\x07\x01", "\x01\x07\x01\x02a", "\x01\x07\x01\x00a", "\x01\x07\x01\x01ab",
		"\x01\x00\x01\x00", "\x01\x0a\x01\x00", "\x01\x01\x00\x00", "\x01\x01\x64\x00", "\x01\x01\x01\x09ninebytes",
		"\x02", "\x02\x65", "\x02\xff", "\x02\x01\x01",
		"\x03", "\x03\x02", "\x03\x65\x00", "\x03\x02\x01", "\x03\x02\x00\x00", "\x03\x02\x02\x01\x01\x00", "\x03\x02\x00\x01\x01\x00",
		"\x03\x02\x02\x01\x01\x00\x01\x01\x00", "\x03\x02\x02\x01\x02\x00\x01\x01\x00", "\x03\x02\x01\x00\x01\x00", "\x03\x02\x01\x01\x64\x00",
		"\x03\x02\x15" + lineBytes(21, ""), "\x03\x02\x01\x01\x01\x09ninebytes",
	} {
		wantSaid(t, "", record(inner)+behind, api.State{})
		wantSaid(t, record("\x01\x07\x02\x00"), record(inner)+behind, api.State{Lines: 1})
	}
}

// What is a right record by itself may be none behind others.
func TestP4WrongBehindOthers(t *testing.T) {
	behind := record("\x02\x63")
	second := record("\x01\x07\x02\x00")
	wantSaid(t, second, second+behind, api.State{Lines: 1})
	wantSaid(t, second, record("\x01\x07\x01\x00")+behind, api.State{Lines: 1})
	all := record("\x03\x05\x01\x07\x05\x00")
	wantSaid(t, all, second+behind, api.State{View: 5, Last: 5, Lines: 1})
	wantSaid(t, all, record("\x02\x04")+behind, api.State{View: 5, Last: 5, Lines: 1})
	full := ""
	for i := range 20 {
		full += record(string([]byte{1, 1, byte(i + 1), 0}))
	}
	wantSaid(t, full, record("\x01\x02\x01\x00")+behind, api.State{Lines: 20})
	wantSaid(t, full+behind, record("\x01\x01\x15\x00"), api.State{View: 99, Lines: 20})
}

func TestP4WhereADiskEnds(t *testing.T) {
	records := []string{record("\x01\x07\x01\x01a"), record("\x02\x03"), record("\x01\x07\x02\x00"), record("\x03\x04\x01\x02\x05\x03xyz"), record("\x02\x05"), record("\x01\x07\x01\x00")}
	states := []api.State{{}, {Lines: 1}, {View: 3, Lines: 1}, {View: 3, Lines: 2}, {View: 4, Last: 4, Lines: 1}, {View: 5, Last: 4, Lines: 1}, {View: 5, Last: 4, Lines: 2}}
	for i, r := range records {
		ahead, behind := strings.Join(records[:i], ""), strings.Join(records[i+1:], "")
		for cut := range r {
			wantSaid(t, ahead, r[:cut], states[i])
			for bit := range 8 {
				wrong := []byte(r)
				wrong[cut] ^= 1 << bit
				wantSaid(t, ahead, string(wrong)+behind, states[i])
			}
		}
		wantSaid(t, ahead+r, "", states[i+1])
	}
}

func TestP5DiskOpensAnew(t *testing.T) {
	disk := record("\x01\x07\x01\x01a") + record("\x03\x04\x01\x02\x05\x03xyz") + record("\x02\x05")
	first := open(t, disk+"torn")
	again := open(t, string(first.Disk(0)))
	if first.State() != again.State() || string(again.Disk(0)) != disk {
		t.Errorf("P5: opened anew: %+v, %x, was %+v, %x", again.State(), again.Disk(0), first.State(), first.Disk(0))
	}
}

func TestP11TellsTheSameAgain(t *testing.T) {
	k := open(t, record("\x03\x04\x02\x02\x05\x03xyz\x01\x01\x00")+record("\x02\x07"))
	for range 3 {
		if got := k.State(); got != (api.State{View: 7, Last: 4, Lines: 2, Agreed: 0}) {
			t.Errorf("P11: State: %+v", got)
		}
		if got := k.Agreed(); len(got) != 0 {
			t.Errorf("P11: Agreed: %v", got)
		}
		k.Disk(1)
	}
	if other := open(t, string(k.Disk(0))); !reflect.DeepEqual(other.Agreed(), k.Agreed()) {
		t.Errorf("P2: two keepers of one disk tell other lines")
	}
}
