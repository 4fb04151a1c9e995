package jour_test

import (
	"bytes"
	"math"
	"testing"

	"apostille/api"
	"apostille/dev"
	"apostille/jour"
)

const firstAt = 157

func full(c byte) []byte { return bytes.Repeat([]byte{c}, api.Sector) }

// text is a sector that begins with bytes.
func text(s string) []byte {
	b := make([]byte, api.Sector)
	copy(b, s)
	return b
}

// ours is a disk of so many places.
func ours(t *testing.T, many int) *dev.Disk {
	t.Helper()
	d := dev.New(firstAt + many)
	if e := jour.Format(d); e != api.OK {
		t.Fatal(e)
	}
	d.Restart()
	return d
}

// writes is n writes of places that fall, each full of its number plus c.
func writes(n int, c byte) []api.Write {
	var l []api.Write
	for k := range n {
		l = append(l, api.Write{At: n - 1 - k, Data: full(byte(k) + c)})
	}
	return l
}

// told is the first byte of each place.
func told(d *dev.Disk) []byte {
	var l []byte
	for i := range jour.Many(d) {
		l = append(l, jour.Read(d, i)[0])
	}
	return l
}

// P2.1
func TestManyAndRead(t *testing.T) {
	for n, want := range map[int]int{1: 0, 156: 0, 157: 0, 158: 1, 200: 43, api.MaxDisk: 1843} {
		if got := jour.Many(dev.New(n)); got != want {
			t.Errorf("Many of %d sectors: %d", n, got)
		}
	}
	d := dev.New(159)
	d.Write(156, full(6))
	d.Write(157, full(7))
	d.Write(158, full(8))
	if !bytes.Equal(jour.Read(d, 0), full(7)) || !bytes.Equal(jour.Read(d, 1), full(8)) {
		t.Error("Read")
	}
	for _, i := range []int{-1, 2, -157, math.MaxInt, math.MinInt} {
		if jour.Read(d, i) != nil {
			t.Errorf("Read(%d) is something", i)
		}
	}
	if jour.Many(nil) != 0 || jour.Read(nil, 0) != nil {
		t.Error("a nil Disk has places")
	}
}

// P2.2
func TestFormat(t *testing.T) {
	if e := jour.Format(dev.New(157)); e != api.ErrRoom {
		t.Error("too small", e)
	}
	if e := jour.Format(nil); e != api.ErrCrash {
		t.Error("nil", e)
	}
	d := dev.New(160)
	for i := range 160 {
		d.Write(i, full(9))
	}
	d.Flush()
	d.Restart()
	if e := jour.Format(d); e != api.OK || d.Ops() != 2+3+1 {
		t.Error("Format", e, d.Ops())
	}
	d.Restart()
	if !bytes.Equal(d.Read(0), text("apst")) || !bytes.Equal(d.Read(1), text("")) || !bytes.Equal(d.Read(2), full(9)) {
		t.Error("sectors")
	}
	if !bytes.Equal(told(d), []byte{0, 0, 0}) {
		t.Error("places", told(d))
	}
	// Sector 0, the mark, the places, in that order.
	for at := range 6 {
		d := dev.New(160)
		for i := range 160 {
			d.Write(i, full(9))
		}
		d.Flush()
		d.Restart()
		keep := []bool{true, true, true, true, true}
		d.Arm(api.Crash{At: at, Keep: keep})
		if e := jour.Format(d); e != api.ErrCrash {
			t.Error(at, e)
		}
		for k, i := range []int{0, 1, 157, 158, 159} {
			if bytes.Equal(d.Read(i), full(9)) != (k >= at) {
				t.Error("order", at, i)
			}
		}
		if e := jour.Format(d); e != api.ErrCrash {
			t.Error("Down", e)
		}
	}
}

// P2.2
func TestOpenRefuses(t *testing.T) {
	if e := jour.Open(nil); e != api.ErrCrash {
		t.Error("nil", e)
	}
	small := dev.New(157)
	small.Write(0, text("apst"))
	if e := jour.Open(small); e != api.ErrDisk {
		t.Error("no places", e)
	}
	small.Arm(api.Crash{})
	small.Flush()
	if e := jour.Open(small); e != api.ErrCrash {
		t.Error("Down comes first", e)
	}
	long := text("mark\x00\x01")
	long[63] = 1
	for _, c := range []struct {
		at   int
		data []byte
		want api.Errno
	}{
		{0, text(""), api.ErrDisk},
		{0, text("apst1"), api.ErrDisk},
		{0, text("Apst"), api.ErrDisk},
		{1, text("mark"), api.ErrDisk},
		{1, text("mark\x00\x97"), api.ErrDisk},
		{1, text("mark\x01\x01"), api.ErrDisk},
		{1, text("mark\x00\x01\x01"), api.ErrDisk},
		{1, text("marc\x00\x01"), api.ErrDisk},
		{1, long, api.ErrDisk},
		{1, text("\x00\x00\x00\x00\x00\x01"), api.ErrDisk},
		{1, text("mark\x00\x01"), api.OK},
		{1, text(""), api.OK},
	} {
		d := ours(t, 3)
		d.Write(c.at, c.data)
		d.Flush()
		d.Restart()
		if e := jour.Open(d); e != c.want {
			t.Errorf("%q: %v", c.data, e)
		}
		if c.want != api.OK && d.Ops() != 0 {
			t.Errorf("%q: something was written", c.data)
		}
	}
}

// P2.2
func TestOpenOfALog(t *testing.T) {
	d := ours(t, 4)
	d.Write(1, text("mark\x00\x03"))
	d.Write(2, text("\x00\x02\x00\x00\x00\x02"))
	d.Write(3, full(5))
	d.Write(4, full(6))
	d.Write(5, full(7))
	d.Flush()
	d.Restart()
	if e := jour.Open(d); e != api.OK || d.Ops() != 3+1+1+1 {
		t.Error(e, d.Ops())
	}
	d.Restart()
	if !bytes.Equal(told(d), []byte{6, 0, 7, 0}) || !bytes.Equal(d.Read(1), text("")) {
		t.Error("places", told(d))
	}
	if e := jour.Open(d); e != api.OK || d.Ops() != 0 {
		t.Error("opened anew", e, d.Ops())
	}
	// A place of it is none: nothing is written.
	d.Write(1, text("mark\x00\x02"))
	d.Write(2, text("\x00\x01\x00\x04"))
	d.Flush()
	d.Restart()
	if e := jour.Open(d); e != api.ErrDisk || d.Ops() != 0 {
		t.Error("no place", e)
	}
}

// P2.2
func TestCommitRefuses(t *testing.T) {
	d := ours(t, 200)
	for i, c := range []struct {
		l    []api.Write
		want api.Errno
	}{
		{[]api.Write{{At: -1, Data: full(1)}}, api.ErrArg},
		{[]api.Write{{At: 200, Data: full(1)}}, api.ErrArg},
		{[]api.Write{{At: 0, Data: full(1)[:63]}}, api.ErrArg},
		{[]api.Write{{At: 0, Data: append(full(1), 1)}}, api.ErrArg},
		{[]api.Write{{At: 0}}, api.ErrArg},
		{[]api.Write{{At: 5, Data: full(1)}, {At: 6, Data: full(1)}, {At: 5, Data: full(2)}}, api.ErrArg},
		{append(writes(150, 1), api.Write{At: 3, Data: full(1)}), api.ErrArg},
		{append(writes(150, 1), api.Write{At: 150, Data: full(1)}), api.ErrRoom},
		{nil, api.OK},
	} {
		if e := jour.Commit(d, c.l...); e != c.want || d.Ops() != 0 {
			t.Error(i, e, d.Ops())
		}
	}
	if e := jour.Commit(nil, writes(1, 1)...); e != api.ErrCrash {
		t.Error("nil", e)
	}
	if e := jour.Commit(nil); e != api.ErrCrash {
		t.Error("nil, nothing", e)
	}
	d.Arm(api.Crash{})
	d.Flush()
	if jour.Commit(d) != api.OK || jour.Commit(d, writes(1, 1)...) != api.ErrCrash || jour.Commit(d, api.Write{At: -1}) != api.ErrArg {
		t.Error("Down")
	}
}

// P2.2
func TestCommitInOrder(t *testing.T) {
	// 33 writes: two sectors of places, the data behind them.
	l := writes(33, 1)
	var order []int
	for k := range 33 {
		order = append(order, 4+k)
	}
	order = append(order, 2, 3, -1, 1, -1)
	for k := range 33 {
		order = append(order, firstAt+32-k)
	}
	order = append(order, -1, 1, -1)
	for at := range len(order) {
		d := ours(t, 33)
		for i := 2; i < firstAt; i++ {
			d.Write(i, full(0xee))
		}
		d.Flush()
		d.Restart()
		d.Arm(api.Crash{At: at, Keep: allKept(35)})
		before := sectors(d)
		if e := jour.Commit(d, l...); e != api.ErrCrash || d.Ops() != at {
			t.Fatal(at, e, d.Ops())
		}
		after := sectors(d)
		for _, i := range order[:at] {
			if i > 1 && bytes.Equal(before[i], after[i]) {
				t.Errorf("crash at %d: %d is not written", at, i)
			}
		}
		for _, i := range order[at:] {
			if i > 1 && !bytes.Equal(before[i], after[i]) {
				t.Errorf("crash at %d: %d is written", at, i)
			}
		}
		wantMark := text("")
		if at > 36 && at < len(order)-1 {
			wantMark = text("mark\x00\x21")
		}
		if at == len(order)-1 {
			wantMark = text("")
		}
		if !bytes.Equal(after[1], wantMark) {
			t.Errorf("crash at %d: mark %q", at, after[1])
		}
	}
	d := ours(t, 33)
	if e := jour.Commit(d, l...); e != api.OK || d.Ops() != len(order) {
		t.Error(e, d.Ops())
	}
	if want := append([]byte{0, 32, 0, 31}, 0, 30); !bytes.Equal(d.Read(2)[:6], want) || !bytes.Equal(d.Read(3), text("\x00\x00")) || !bytes.Equal(d.Read(4), full(1)) {
		t.Error("the log", d.Read(2)[:6], d.Read(3)[:4], d.Read(4)[:4])
	}
}

func allKept(n int) []bool {
	l := make([]bool, n)
	for i := range l {
		l[i] = true
	}
	return l
}

func sectors(d *dev.Disk) [][]byte {
	var l [][]byte
	for i := range d.Size() {
		l = append(l, d.Read(i))
	}
	return l
}

// P2.2
func TestCommitOfMany(t *testing.T) {
	d := ours(t, 160)
	l := writes(api.MaxTx, 1)
	if e := jour.Commit(d, l...); e != api.OK {
		t.Fatal(e)
	}
	d.Restart()
	for _, w := range l {
		if !bytes.Equal(jour.Read(d, w.At), w.Data) {
			t.Error(w.At)
		}
	}
}

// P2.2, P2.3: a log of any length is ended by Open, its places as far as they go.
func TestLongLogs(t *testing.T) {
	for _, n := range []int{1, 31, 32, 33, 64, 65, api.MaxTx} {
		sheets := (n + 31) / 32
		d := ours(t, 600)
		var l []api.Write
		for k := range n {
			l = append(l, api.Write{At: 599 - 3*k, Data: full(byte(k + 1))})
		}
		// The log's writes, a Flush, the mark, a Flush, and then the crash.
		d.Arm(api.Crash{At: n + sheets + 3})
		if e := jour.Commit(d, l...); e != api.ErrCrash {
			t.Fatal(n, e)
		}
		if !bytes.Equal(d.Read(2+sheets), full(1)) || !bytes.Equal(d.Read(1), text("mark\x00"+string([]byte{byte(n)}))) {
			t.Error(n, "the log")
		}
		for i := range 600 {
			if jour.Read(d, i)[0] != 0 {
				t.Fatal(n, "a place was written")
			}
		}
		d.Restart()
		if e := jour.Open(d); e != api.OK || d.Ops() != n+3 {
			t.Error(n, e, d.Ops())
		}
		d.Restart()
		for _, w := range l {
			if !bytes.Equal(jour.Read(d, w.At), w.Data) {
				t.Fatal(n, w.At)
			}
		}
	}
}

// keeps is the lists of what may be kept that are tried at each crash.
func keeps() [][]bool {
	all, even, odd := make([]bool, 400), make([]bool, 400), make([]bool, 400)
	for i := range all {
		all[i], even[i], odd[i] = true, i%2 == 0, i%2 == 1
	}
	return [][]bool{nil, all, even, odd, all[:1], append(make([]bool, 3), true)}
}

// P2.3
func TestAllOrNothing(t *testing.T) {
	old, now := []byte{1, 2, 3, 4, 5}, []byte{1, 9, 8, 4, 7}
	l := []api.Write{{At: 4, Data: full(7)}, {At: 1, Data: full(9)}, {At: 2, Data: full(8)}}
	for at := range 14 {
		for _, keep := range keeps() {
			for again := range 7 {
				for _, keep2 := range keeps() {
					d := ours(t, 5)
					for i, c := range old {
						jour.Commit(d, api.Write{At: i, Data: full(c)})
					}
					d.Restart()
					d.Arm(api.Crash{At: at, Keep: keep})
					e := jour.Commit(d, l...)
					d.Restart()
					d.Arm(api.Crash{At: again, Keep: keep2})
					jour.Open(d)
					d.Restart()
					if o := jour.Open(d); o != api.OK {
						t.Fatal(at, again, o)
					}
					got := told(d)
					if !bytes.Equal(got, now) && (e == api.OK || !bytes.Equal(got, old)) {
						t.Fatal(at, keep, again, e, got)
					}
				}
			}
		}
	}
}

// P2.3
func TestMemory(t *testing.T) {
	d := ours(t, 2)
	l := []api.Write{{At: 1, Data: full(3)}}
	jour.Commit(d, l...)
	l[0].Data[0] = 8
	l[0].At = 0
	jour.Read(d, 1)[1] = 8
	if !bytes.Equal(jour.Read(d, 1), full(3)) || !bytes.Equal(told(d), []byte{0, 3}) {
		t.Error("memory is shared")
	}
	if !bytes.Equal(l[0].Data[1:], full(3)[1:]) {
		t.Error("what is handed in is changed")
	}
}
