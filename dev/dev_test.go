package dev_test

import (
	"bytes"
	"math"
	"testing"

	"apostille/api"
	"apostille/dev"
)

// full is a sector full of a byte.
func full(c byte) []byte { return bytes.Repeat([]byte{c}, api.Sector) }

// holds tells which byte each sector is full of; 255 of one of several bytes.
func holds(d *dev.Disk) []byte {
	var l []byte
	for i := range d.Size() {
		b := d.Read(i)
		if !bytes.Equal(b, full(b[0])) {
			b[0] = 255
		}
		l = append(l, b[0])
	}
	return l
}

// P1.1
func TestNewAndSize(t *testing.T) {
	for _, n := range []int{math.MinInt, -1, 0, api.MaxDisk + 1, math.MaxInt} {
		if dev.New(n) != nil {
			t.Errorf("New(%d) is a disk", n)
		}
	}
	for _, n := range []int{1, 2, api.MaxDisk} {
		d := dev.New(n)
		if d == nil || d.Size() != n || d.Ops() != 0 || d.Down() {
			t.Fatalf("New(%d)", n)
		}
		if !bytes.Equal(holds(d), make([]byte, n)) {
			t.Errorf("New(%d) is not noughts", n)
		}
	}
}

// P1.1
func TestReadWriteFlush(t *testing.T) {
	d := dev.New(4)
	for _, i := range []int{-1, 4, math.MaxInt, math.MinInt} {
		if d.Read(i) != nil {
			t.Errorf("Read(%d) is something", i)
		}
		if e := d.Write(i, full(1)); e != api.ErrArg {
			t.Errorf("Write(%d): %v", i, e)
		}
	}
	for _, b := range [][]byte{nil, {}, make([]byte, 63), make([]byte, 65)} {
		if e := d.Write(0, b); e != api.ErrArg {
			t.Errorf("Write of %d bytes: %v", len(b), e)
		}
	}
	if d.Ops() != 0 {
		t.Error("what is wrong is counted")
	}
	if d.Write(3, full(3)) != api.OK || d.Write(1, full(1)) != api.OK || d.Write(3, full(4)) != api.OK || d.Ops() != 3 {
		t.Error("Write")
	}
	if !bytes.Equal(holds(d), []byte{0, 1, 0, 4}) {
		t.Error("what waits is not read", holds(d))
	}
	if d.Flush() != api.OK || d.Flush() != api.OK || d.Ops() != 5 {
		t.Error("Flush")
	}
}

// P1.2
func TestCrashKeeps(t *testing.T) {
	const y, n = true, false
	for _, c := range []struct {
		at   int
		keep []bool
		want []byte
	}{
		{2, []bool{n, y}, []byte{0, 2}},
		{2, []bool{y, n}, []byte{1, 0}},
		{2, nil, []byte{0, 0}},
		{2, []bool{y}, []byte{1, 0}},
		{2, []bool{y, y, y, y}, []byte{1, 2}},
		{3, []bool{n, n}, []byte{1, 2}},
		{4, []bool{y}, []byte{7, 2}},
		{5, []bool{y, y}, []byte{8, 2}},
		{5, []bool{y, n}, []byte{7, 2}},
		{5, []bool{n, y}, []byte{8, 2}},
		{math.MinInt, []bool{y}, []byte{0, 0}},
	} {
		d := dev.New(2)
		d.Arm(api.Crash{At: c.at, Keep: c.keep})
		acts := []func() api.Errno{
			func() api.Errno { return d.Write(0, full(1)) },
			func() api.Errno { return d.Write(1, full(2)) },
			d.Flush,
			func() api.Errno { return d.Write(0, full(7)) },
			func() api.Errno { return d.Write(0, full(8)) },
			d.Flush,
		}
		for k, act := range acts {
			e := act()
			if (e == api.OK) != (k < c.at) || e != api.OK && e != api.ErrCrash {
				t.Errorf("at %d: operation %d: %v", c.at, k, e)
			}
		}
		if !d.Down() || !bytes.Equal(holds(d), c.want) {
			t.Errorf("at %d keep %v: %v", c.at, c.keep, holds(d))
		}
		if d.Write(-1, nil) != api.ErrCrash {
			t.Error("Down comes ahead of ErrArg")
		}
		d.Restart()
		if d.Down() || d.Ops() != 0 || !bytes.Equal(holds(d), c.want) {
			t.Errorf("Restart at %d", c.at)
		}
	}
}

// P1.2
func TestArm(t *testing.T) {
	d := dev.New(1)
	d.Write(0, full(1))
	d.Flush()
	d.Arm(api.Crash{At: 9})
	d.Arm(api.Crash{At: 0})
	if d.Write(0, nil) != api.ErrArg || d.Down() {
		t.Error("what is wrong is no operation")
	}
	if d.Flush() != api.ErrCrash || !d.Down() || d.Ops() != 2 {
		t.Error("the next one, if so many were already")
	}
	d.Arm(api.Crash{At: 0})
	d.Restart()
	if d.Write(0, full(2)) != api.OK || d.Flush() != api.OK {
		t.Error("Restart leaves it armed")
	}
}

// P1.2, P1.3
func TestRestartForgets(t *testing.T) {
	d := dev.New(2)
	d.Write(0, full(1))
	d.Flush()
	d.Write(0, full(2))
	d.Write(1, full(3))
	d.Restart()
	if !bytes.Equal(holds(d), []byte{1, 0}) || d.Ops() != 0 {
		t.Error("Restart", holds(d))
	}
	d.Flush()
	d.Restart()
	if !bytes.Equal(holds(d), []byte{1, 0}) {
		t.Error("what never was lasts", holds(d))
	}
}

// P1.3
func TestMemory(t *testing.T) {
	d := dev.New(1)
	b := full(1)
	d.Write(0, b)
	b[0] = 9
	d.Flush()
	d.Read(0)[1] = 9
	if !bytes.Equal(holds(d), []byte{1}) {
		t.Error("memory is shared")
	}
	keep := []bool{true}
	d.Arm(api.Crash{At: 3, Keep: keep})
	keep[0] = false
	d.Write(0, full(2))
	d.Flush()
	if !bytes.Equal(holds(d), []byte{2}) || !d.Down() {
		t.Error("Keep is shared")
	}
}

// P1.3
func TestNil(t *testing.T) {
	var d *dev.Disk
	d.Arm(api.Crash{})
	d.Restart()
	if d.Size() != 0 || d.Read(0) != nil || d.Ops() != 0 || !d.Down() {
		t.Error("a nil Disk is something")
	}
	if d.Write(0, full(1)) != api.ErrCrash || d.Write(5, nil) != api.ErrCrash || d.Flush() != api.ErrCrash {
		t.Error("a nil Disk is written")
	}
	var z dev.Disk
	if z.Size() != 0 || z.Read(0) != nil || z.Write(0, full(1)) != api.ErrArg || z.Down() {
		t.Error("a Disk of no sectors")
	}
}
