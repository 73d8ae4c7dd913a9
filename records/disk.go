package records

import (
	"slices"

	"parley/api"
	"parley/check"
	"parley/row"
)

// Disk is a keeper's disk: its records, and what they say.
type Disk struct {
	written []byte
	said    Content
	failing int    // which record from now on fails; 0: none does
	failed  []byte // the record at which the disk failed; there is none as long as it has not
}

// Open makes a disk of bytes, without what stands behind their last right record.
func Open(b []byte) Disk {
	said, size := Read(b)
	return Disk{written: append([]byte(nil), b[:size]...), said: said}
}

// Said is what the disk says; its lines are the disk's own, and are only to be read.
func (d *Disk) Said() Content { return d.said }

// Failed tells whether a record has failed: nothing can be written from then on.
func (d *Disk) Failed() bool { return len(d.failed) > 0 }

// Arm lets the n-th record from now on fail, or none, if n is 0 or below.
func (d *Disk) Arm(n int) {
	if !d.Failed() {
		d.failing = max(n, 0)
	}
}

// Bytes are all records that were written, and of one that failed as many bytes as keep says.
func (d *Disk) Bytes(keep int) []byte {
	keep = min(max(keep, 0), len(d.failed))
	return slices.Concat(d.written, d.failed[:keep])
}

// LineMore writes that a line, which must fit there, stands behind the others; false: the disk has failed.
func (d *Disk) LineMore(l api.Line) bool {
	return d.write(row.AppendLine([]byte{lineMore}, l))
}

// View writes that the view is another one; false: the disk has failed.
func (d *Disk) View(v int) bool { return d.write([]byte{view, byte(v)}) }

// All writes that these lines, which must be right, are all, and of which view; false: the disk has failed.
func (d *Disk) All(view int, lines []api.Line) bool {
	return d.write(row.Append([]byte{all, byte(view)}, lines))
}

// write does with a record what reading it would do, so that a disk never says else than its bytes.
func (d *Disk) write(inner []byte) bool {
	if d.Failed() {
		return false
	}
	if d.failing == 1 {
		*d = Disk{written: d.written, failed: whole(inner)}
		return false
	}
	d.failing = max(d.failing-1, 0)
	d.written = append(d.written, whole(inner)...)
	d.said, _ = after(d.said, inner)
	return true
}

// whole puts around what a record says its length and its check.
func whole(inner []byte) []byte {
	return check.Append(append([]byte{byte(len(inner))}, inner...))
}
