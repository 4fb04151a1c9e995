package when_test

import (
	"math"
	"math/rand"
	"testing"
	"time"

	"apostille/api"
	"apostille/tlv"
	"apostille/when"
)

const first, last = -631152000, 253402300799

// prim is a primitive of a text.
func prim(tag byte, s string) api.Node { return api.Node{Tag: tag, Body: []byte(s)} }

// P14.1
func TestIs(t *testing.T) {
	for s, want := range map[int64]bool{first: true, first - 1: false, last: true, last + 1: false, 0: true, math.MinInt64: false, math.MaxInt64: false} {
		if when.Is(s) != want {
			t.Error(s)
		}
		if n := when.Time(s); (n.Tag != 0) != want {
			t.Error(s, n)
		}
		if year, month, day, hour, minute, second := when.Date(s); !want && (year|month|day|hour|minute|second) != 0 {
			t.Error("a date of", s)
		}
	}
}

// P14.1
func TestTime(t *testing.T) {
	for s, want := range map[int64]api.Node{
		0:             prim(0x17, "700101000000Z"),
		-1:            prim(0x17, "691231235959Z"),
		first:         prim(0x17, "500101000000Z"),
		2524607999:    prim(0x17, "491231235959Z"),
		2524608000:    prim(0x18, "20500101000000Z"),
		last:          prim(0x18, "99991231235959Z"),
		951827696:     prim(0x17, "000229123456Z"),
		4107542399:    prim(0x18, "21000228235959Z"),
		4107542400:    prim(0x18, "21000301000000Z"),
		13574563200:   prim(0x18, "24000229000000Z"),
		-620524800:    prim(0x17, "500504000000Z"),
		1_000_000_000: prim(0x17, "010909014640Z"),
	} {
		if got := when.Time(s); !tlv.Same(got, want) {
			t.Errorf("%d: %q", s, got.Body)
		}
		if got, ok := when.Get(want); !ok || got != s {
			t.Errorf("%q: %d", want.Body, got)
		}
	}
}

// P14.1, P14.2
func TestAgainstTheLibrary(t *testing.T) {
	r := rand.New(rand.NewSource(14))
	look := func(s int64) {
		u := time.Unix(s, 0).UTC()
		year, month, day, hour, minute, second := when.Date(s)
		if year != u.Year() || month != int(u.Month()) || day != u.Day() || hour != u.Hour() || minute != u.Minute() || second != u.Second() {
			t.Fatal(s, year, month, day, hour, minute, second)
		}
		n := when.Time(s)
		want := prim(0x17, u.Format("060102150405Z"))
		if u.Year() >= 2050 {
			want = prim(0x18, u.Format("20060102150405Z"))
		}
		if !tlv.Same(n, want) {
			t.Fatalf("%d: %q", s, n.Body)
		}
		if got, ok := when.Get(n); !ok || got != s {
			t.Fatal("Get of Time", s, got)
		}
	}
	for range 20000 {
		look(first + r.Int63n(last-first+1))
	}
	for day := int64(first); day < 86400*366*160; day += 86400 {
		look(day)
		look(day + 86399)
	}
	for s := int64(last); s > last-86400*800; s -= 86400 {
		look(s)
	}
}

// P14.1
func TestGetRefuses(t *testing.T) {
	for _, n := range []api.Node{
		{},
		prim(0x17, ""),
		prim(0x17, "Z"),
		prim(0x18, "700101000000Z"),
		prim(0x17, "19700101000000Z"),
		prim(0x18, "19700101000000Z"),
		prim(0x18, "20491231235959Z"),
		prim(0x18, "00000101000000Z"),
		prim(0x18, "00000000000000Z"),
		prim(0x17, "700101000000"),
		prim(0x17, "700101000000z"),
		prim(0x17, "7001010000Z"),
		prim(0x17, "700101000000+"),
		prim(0x17, "700101000000Z0"),
		prim(0x17, "700101000000+0000"),
		prim(0x17, "700001000000Z"),
		prim(0x17, "701301000000Z"),
		prim(0x17, "709901000000Z"),
		prim(0x17, "700100000000Z"),
		prim(0x17, "700132000000Z"),
		prim(0x17, "700431000000Z"),
		prim(0x17, "700229000000Z"),
		prim(0x17, "000230000000Z"),
		prim(0x18, "21000229000000Z"),
		prim(0x17, "700101240000Z"),
		prim(0x17, "700101006000Z"),
		prim(0x17, "700101000060Z"),
		prim(0x17, "7001010000 0Z"),
		prim(0x17, "70010100000:Z"),
		prim(0x17, "70010100000/Z"),
		prim(0x17, "-00101000000Z"),
		prim(0x37, "700101000000Z"),
		prim(0x16, "700101000000Z"),
		{Tag: 0x17, Body: []byte("700101000000Z"), Kids: []api.Node{prim(4, "")}},
		prim(0x17, string(make([]byte, 100001))),
	} {
		if got, ok := when.Get(n); ok || got != 0 {
			t.Errorf("%x %q: %d", n.Tag, n.Body, got)
		}
	}
}

// P14.2: every thing of digits that is a time's is the one of just that time.
func TestOneThing(t *testing.T) {
	r := rand.New(rand.NewSource(15))
	times := 0
	for range 50000 {
		n := when.Time(first + r.Int63n(3_200_000_000))
		for range r.Intn(3) {
			n.Body[r.Intn(len(n.Body)-1)] = byte('0' + r.Intn(10))
		}
		if got, ok := when.Get(n); ok {
			times++
			if !tlv.Same(when.Time(got), n) {
				t.Fatalf("%q", n.Body)
			}
		}
	}
	if times < 1000 {
		t.Error("few were times", times)
	}
}
