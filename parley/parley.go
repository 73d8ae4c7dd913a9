// Package parley: lines on which keepers agree: see DOC.md.
package parley

import (
	"parley/api"
	"parley/frames"
	"parley/poll"
	"parley/records"
)

// Pack makes a frame's bytes (P3).
func Pack(f api.Frame) ([]byte, api.Errno) {
	b, ok := frames.Pack(f)
	if !ok {
		return nil, api.ErrFrame
	}
	return b, api.OK
}

// Unpack reads a frame (P3).
func Unpack(b []byte) (api.Frame, api.Errno) {
	f, ok := frames.Unpack(b)
	if !ok {
		return api.Frame{}, api.ErrFrame
	}
	return f, api.OK
}

// Keeper is one of those who agree.
type Keeper struct {
	config api.Config
	disk   records.Disk
	agreed int // never written: a keeper learns it anew from the others

	// What follows is of the keeper's view alone.
	holds   [api.MaxKeepers]int // how far each other keeper holds, as far as the head knows
	waited  int                 // for how many ticks who is not the head has heard nothing of it
	heard   poll.Poll           // what was heard between views
	yielded bool
}

// Open makes a keeper of a disk (P4).
func Open(c api.Config, disk []byte) (*Keeper, api.Errno) {
	if !rightConfig(c) {
		return nil, api.ErrConfig
	}
	return &Keeper{config: c, disk: records.Open(disk)}, api.OK
}

func rightConfig(c api.Config) bool {
	return (c.Keepers == 3 || c.Keepers == api.MaxKeepers) &&
		c.Me >= 0 && c.Me < c.Keepers &&
		c.Patience >= 2 && c.Patience <= api.MaxPatience
}

// Heard takes a frame; what is to be sent then (P6 to P9).
func (k *Keeper) Heard(b []byte) ([]api.Out, api.Errno) {
	if k.disk.Failed() {
		return nil, api.ErrDead
	}
	came, ok := frames.Read(b)
	if !ok || !k.accepts(came) {
		return nil, api.ErrFrame
	}
	return k.unlessCrashed(k.hear(came))
}

// Tick lets some time pass; what is to be sent then (P10).
func (k *Keeper) Tick() ([]api.Out, api.Errno) {
	if k.disk.Failed() {
		return nil, api.ErrDead
	}
	return k.unlessCrashed(k.letPass())
}

// State tells a keeper's state (P11).
func (k *Keeper) State() api.State {
	said := k.disk.Said()
	return api.State{View: said.View, Last: said.Last, Lines: len(said.Lines), Agreed: k.agreed}
}

// Agreed tells the lines that are agreed (P11).
func (k *Keeper) Agreed() []api.Line { return append([]api.Line(nil), k.agreedLines()...) }

// Arm lets the disk fail at a write (P5).
func (k *Keeper) Arm(write int) { k.disk.Arm(write) }

// Disk tells what is on the disk; keep: what of a write that failed (P5).
func (k *Keeper) Disk(keep int) []byte { return k.disk.Bytes(keep) }
