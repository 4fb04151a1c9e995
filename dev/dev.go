// Package dev is a disk that may crash: see DOC.md, chapter 1.
package dev

import (
	"apostille/api"
)

// sector is what stands in one.
type sector [api.Sector]byte

// wait is a Write that a crash may still take back.
type wait struct {
	at   int
	data sector
}

// Disk is a disk.
type Disk struct {
	now   []sector // what Read tells
	lasts []sector // what is there behind a crash
	waits []wait   // in the order in which they came
	ops   int
	armed bool
	crash api.Crash
	down  bool
}

// New is a disk of noughts.
func New(n int) *Disk {
	if n < 1 || n > api.MaxDisk {
		return nil
	}
	return &Disk{now: make([]sector, n), lasts: make([]sector, n)}
}

// Size is how many sectors it has.
func (d *Disk) Size() int {
	if d == nil {
		return 0
	}
	return len(d.now)
}

// Read is a sector.
func (d *Disk) Read(i int) []byte {
	if !d.has(i) {
		return nil
	}
	b := make([]byte, api.Sector)
	copy(b, d.now[i][:])
	return b
}

// Write writes a sector.
func (d *Disk) Write(i int, b []byte) api.Errno {
	if d.Down() {
		return api.ErrCrash
	}
	if !d.has(i) || len(b) != api.Sector {
		return api.ErrArg
	}
	if d.due() {
		d.fall()
		return api.ErrCrash
	}
	w := wait{at: i}
	copy(w.data[:], b)
	d.now[i] = w.data
	d.waits = append(d.waits, w)
	d.ops++
	return api.OK
}

// Flush has all last.
func (d *Disk) Flush() api.Errno {
	if d.Down() {
		return api.ErrCrash
	}
	if d.due() {
		d.fall()
		return api.ErrCrash
	}
	for _, w := range d.waits {
		d.lasts[w.at] = w.data
	}
	d.waits = nil
	d.ops++
	return api.OK
}

// Arm says where it crashes.
func (d *Disk) Arm(c api.Crash) {
	if d == nil {
		return
	}
	d.armed = true
	d.crash = api.Crash{At: c.At, Keep: append([]bool(nil), c.Keep...)}
}

// Down tells whether it crashed.
func (d *Disk) Down() bool {
	return d == nil || d.down
}

// Restart starts it anew.
func (d *Disk) Restart() {
	if d == nil {
		return
	}
	d.forget()
	d.armed = false
	d.crash = api.Crash{}
	d.down = false
	d.ops = 0
}

// Ops is how many operations there were.
func (d *Disk) Ops() int {
	if d == nil {
		return 0
	}
	return d.ops
}

// has tells whether there is such a sector.
func (d *Disk) has(i int) bool {
	return i >= 0 && i < d.Size()
}

// due tells whether it crashes ahead of the operation that comes.
func (d *Disk) due() bool {
	return d.armed && d.ops >= d.crash.At
}

// fall is the crash: what is kept of what waits lasts, the rest never was.
func (d *Disk) fall() {
	for k, w := range d.waits {
		if k < len(d.crash.Keep) && d.crash.Keep[k] {
			d.lasts[w.at] = w.data
		}
	}
	d.forget()
	d.down = true
}

// forget takes back all that waits.
func (d *Disk) forget() {
	for _, w := range d.waits {
		d.now[w.at] = d.lasts[w.at]
	}
	d.waits = nil
}
