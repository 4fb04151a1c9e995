package audit_test

import (
	"bytes"
	"math"
	"math/rand"
	"slices"
	"strconv"
	"testing"

	"apostille/accept"
	"apostille/api"
	"apostille/audit"
	"apostille/cert"
	"apostille/list"
	"apostille/node"
	"apostille/pack"
	"apostille/play"
	"apostille/sample"
	"apostille/sha"
	"apostille/tlv"
)

const disk = 260 // sectors

func install(b []byte) api.Act { return api.Act{Kind: 1, Pack: b, Now: now} }
func start() api.Act           { return api.Act{Kind: 3} }
func query() api.Act           { return api.Act{Kind: 4} }

// armed is an act of a kind with a crash.
func armed(kind, at int, keep []bool) api.Act {
	return api.Act{Kind: kind, Crash: api.Crash{At: at, Keep: keep}}
}

// sameStory tells whether two stories are one.
func sameStory(a, b play.Story) bool {
	return slices.EqualFunc(a.Told, b.Told, audit.Same) && audit.Same(a.Last, b.Last) && a.Up == b.Up
}

// some is packages with counters 0 to 5, and what each installs.
func some(h sample.House) ([][]byte, []api.Answer) {
	var packs [][]byte
	var tells []api.Answer
	for i := range 6 {
		var files []api.File
		for k := range i % 4 {
			files = append(files, file("f"+strconv.Itoa(k), byte('a'+i), 30*i*k))
		}
		name := "p" + strconv.Itoa(i)
		packs = append(packs, h.Bytes(name, uint64(i), files...))
		tells = append(tells, api.Answer{Counter: uint64(i), Name: name, Files: files})
	}
	return packs, tells
}

// P0.1: without a crash what is told is what a plain model tells; starting
// anew anywhere changes nothing.
func TestOneMeaning(t *testing.T) {
	h := sample.NewHouse()
	packs, tells := some(h)
	r := rand.New(rand.NewSource(1))
	for range 15 {
		var acts, anew []api.Act
		var want, wantAnew []api.Answer
		var is api.Answer
		first := true
		add := func(a api.Act, w api.Answer) {
			acts, want = append(acts, a), append(want, w)
			anew, wantAnew = append(anew, a, start()), append(wantAnew, w, api.Answer{})
		}
		for range 8 {
			switch k := r.Intn(8); k {
			case 6:
				add(api.Act{Kind: 7 + r.Intn(3)}, api.Answer{Err: api.ErrArg})
			case 7:
				add(query(), is)
			default:
				e := api.ErrBack
				if first || tells[k].Counter > is.Counter {
					e, is, first = api.OK, tells[k], false
				}
				add(install(packs[k]), api.Answer{Err: e})
			}
		}
		s := play.Run(disk, h.Trust(), acts...)
		if !sameStory(s, play.Story{Told: want, Last: is, Up: true}) {
			t.Fatal("another story", s.Told, want)
		}
		if x := play.Run(disk, h.Trust(), anew...); !sameStory(x, play.Story{Told: wantAnew, Last: is, Up: true}) {
			t.Fatal("starting anew changes something")
		}
		if !sameStory(s, play.Run(disk, h.Trust(), acts...)) {
			t.Fatal("the same script tells something else")
		}
	}
}

// P0.2: wherever it crashes, in an install or in the start behind it.
func TestWholeOrNot(t *testing.T) {
	h := sample.NewHouse()
	one, two := h.Bytes("one", 1, file("x", 'a', 70), file("y", 'b', 3)), h.Bytes("two", 2, file("x", 'c', 130))
	all := make([]bool, 200)
	some := make([]bool, 200)
	for i := range all {
		all[i], some[i] = true, i%3 == 0
	}
	ended, olds, news := false, 0, 0
	for at := 0; !ended; at++ {
		for k, keep := range [][]bool{nil, all, some} {
			s := play.Run(disk, h.Trust(), install(one), query(), start(), armed(2, at, keep), install(two),
				armed(5, (at*7+k)%15, keep), start(), query(), start(), query())
			old, e, got := s.Told[1], s.Told[4].Err, s.Told[7]
			ended = e == api.OK
			isOld, isNew := audit.Same(got, old), got.Name == "two"
			if !audit.Whole(got, [][]byte{one, two}) || !isOld && !isNew || e == api.OK && !isNew {
				t.Fatal(at, k, e, got)
			}
			if e != api.OK && e != api.ErrCrash || s.Told[6].Err != api.OK || !audit.Same(s.Told[9], got) || !audit.Same(s.Last, got) || !s.Up {
				t.Fatal(at, k, s.Told)
			}
			if isOld {
				olds++
			} else {
				news++
			}
		}
	}
	if olds < 20 || news < 20 {
		t.Error("not all was tried", olds, news)
	}
}

// P0.2, P0.3: random scripts with crashes anywhere.
func TestRandomScripts(t *testing.T) {
	h := sample.NewHouse()
	packs, _ := some(h)
	r := rand.New(rand.NewSource(3))
	crashes := 0
	for range 60 {
		keep := make([]bool, 60)
		for i := range keep {
			keep[i] = r.Intn(2) == 0
		}
		var acts []api.Act
		for range 12 {
			switch r.Intn(4) {
			case 0:
				acts = append(acts, start(), armed(2, r.Intn(50), keep))
			case 1:
				acts = append(acts, armed(5, r.Intn(50), keep))
			}
			acts = append(acts, install(packs[r.Intn(len(packs))]), query())
		}
		acts = append(acts, start(), query())
		s := play.Run(disk, h.Trust(), acts...)
		var asked []api.Answer
		for i, a := range s.Told {
			if a.Err == api.ErrCrash {
				crashes++
			}
			if acts[i].Kind == 4 && a.Err == api.OK {
				asked = append(asked, a)
				if !audit.Whole(a, packs) {
					t.Fatal("not whole", a)
				}
			}
		}
		if !audit.Rises(asked) || !s.Up || !audit.Same(s.Last, asked[len(asked)-1]) {
			t.Fatal("counters fell", asked)
		}
	}
	if crashes < 50 {
		t.Error("few crashes", crashes)
	}
}

// P0.3
func TestNeverBack(t *testing.T) {
	h := sample.NewHouse()
	var acts []api.Act
	var want []api.Errno
	for _, c := range []struct {
		counter uint64
		want    api.Errno
	}{{0, api.OK}, {0, api.ErrBack}, {2, api.OK}, {1, api.ErrBack}, {2, api.ErrBack}, {math.MaxInt64 + 1, api.OK}, {3, api.ErrBack}, {math.MaxUint64, api.OK}, {math.MaxUint64, api.ErrBack}, {0, api.ErrBack}} {
		acts = append(acts, install(h.Bytes("x", c.counter)), query())
		want = append(want, c.want)
	}
	s := play.Run(disk, h.Trust(), acts...)
	var asked []api.Answer
	for i, e := range want {
		if s.Told[2*i].Err != e {
			t.Error(i, s.Told[2*i].Err)
		}
		asked = append(asked, s.Told[2*i+1])
	}
	if !audit.Rises(asked) || s.Last.Counter != math.MaxUint64 {
		t.Error(asked)
	}
}

// P0.4: each of what may be wrong, alone and together, against what is to be let in.
func TestLetIn(t *testing.T) {
	h := sample.NewHouse()
	r := rand.New(rand.NewSource(4))
	f := file("x", 'a', 3)
	stranger := sample.EC(500)
	in := 0
	for range 200 {
		odds := func() bool { return r.Intn(6) == 0 }
		badSig, badUse, noMid, badFile, badStampUse := odds(), odds(), odds(), odds(), odds()
		at := []int64{sample.From - 1, 2000, 4000, sample.Till + 1}[r.Intn(4)]
		stampAt := []int64{-1, sample.From - 1, 2000, 4000, 6000}[r.Intn(5)]
		goneAt := []int64{-1, 1500, 3000, 5500}[r.Intn(4)]
		p := h.Pack(sample.Manifest("x", 1, f), f)
		p.Certs = slices.Clone(p.Certs)
		if badUse {
			p.Certs[0] = sample.Cert(3, sample.Name("house", "leaf"), h.Leaf, h.Certs[1].Subject, h.Mid, sample.Usage(0x80), sample.Uses(8))
		}
		if badSig {
			p.Sig = stranger.Sign(sha.Of(p.Manifest))
		}
		if badFile {
			p.Files = [][]byte{[]byte("aab")}
		}
		if goneAt >= 0 {
			p.Crls = []api.Crl{h.Revoked(3, goneAt)}
		}
		if stampAt >= 0 {
			x := h
			if badStampUse {
				x.StampCert = sample.Cert(4, sample.Name("house", "stamper"), h.Stamper, h.Certs[1].Subject, h.Mid, sample.Uses(3))
			}
			p = x.Stamped(p, stampAt)
		}
		if noMid {
			p.Certs = p.Certs[:1]
		}
		time := at
		if stampAt >= sample.From && !badStampUse && !noMid {
			time = stampAt
		}
		want := api.OK
		switch {
		case badSig:
			want = api.ErrSign
		case badUse || noMid || time < sample.From || time > sample.Till || goneAt >= 0 && goneAt <= time:
			want = api.ErrChain
		case badFile:
			want = api.ErrDigest
		}
		_, m, e := accept.Bytes(pack.Bytes(p), h.Trust(), at, 0, true)
		if e != want || e == api.OK && m.Name != "x" {
			t.Fatal(e, want, badSig, badUse, noMid, badFile, badStampUse, at, stampAt, goneAt)
		}
		if e == api.OK {
			in++
		}
	}
	if in < 20 {
		t.Error("few were let in", in)
	}
}

// P0.5: whatever is read tells the same bytes again.
func TestOneReading(t *testing.T) {
	h := sample.NewHouse()
	p := h.Stamped(h.Pack(sample.Manifest("x", 1, file("x", 'a', 3)), file("x", 'a', 3)), 2000)
	p.Crls = []api.Crl{h.Revoked(3, 5)}
	again := map[string]func(b []byte) ([]byte, api.Errno){
		"tlv": func(b []byte) ([]byte, api.Errno) {
			n, e := tlv.Read(b)
			return tlv.Bytes(n), e
		},
		"cert": func(b []byte) ([]byte, api.Errno) {
			c, e := cert.Read(b)
			return tlv.Bytes(cert.Node(c)), e
		},
		"list": func(b []byte) ([]byte, api.Errno) {
			m, e := list.Read(b)
			return tlv.Bytes(list.Node(m)), e
		},
		"pack": func(b []byte) ([]byte, api.Errno) {
			p, e := pack.Read(b)
			return pack.Bytes(p), e
		},
	}
	for name, b := range map[string][]byte{"tlv": p.Manifest, "cert": tlv.Bytes(cert.Node(h.Anchor)), "list": p.Manifest, "pack": pack.Bytes(p)} {
		if got, e := again[name](b); e != api.OK || !bytes.Equal(got, b) {
			t.Error(name, e)
		}
		r := rand.New(rand.NewSource(5))
		for range 3000 {
			c := bytes.Clone(b)
			for range 1 + r.Intn(2) {
				c[r.Intn(len(c))] = byte(r.Intn(256))
			}
			if got, e := again[name](c); e == api.OK && !bytes.Equal(got, c) {
				t.Fatal(name, "tells other bytes")
			}
		}
	}
	var deep []byte
	for range 13 {
		deep = append([]byte{0x30, byte(len(deep))}, deep...)
	}
	many := append([]byte{0x30, 0x82, 4, 0xb0}, bytes.Repeat([]byte{4, 0}, 600)...)
	for name, read := range again {
		if _, e := read(deep); e != api.ErrDeep {
			t.Error(name, "too deep", e)
		}
		if _, e := read(many); e != api.ErrLarge {
			t.Error(name, "too many", e)
		}
	}
}

// P0.6: what is refused leaves what is installed as it was.
func TestRefused(t *testing.T) {
	h := sample.NewHouse()
	x := file("x", 'a', 3)
	good := h.Bytes("good", 5, x)
	stranger := h
	stranger.Leaf = sample.EC(77)
	otherFile := h.Pack(sample.Manifest("f", 6, x), file("x", 'b', 3))
	late := install(h.Bytes("late", 6, x))
	late.Now = sample.Till + 1
	var wide []api.File
	for i := range 10 {
		wide = append(wide, file("w"+strconv.Itoa(i), 'w', 600))
	}
	for i, c := range []struct {
		act  api.Act
		want api.Errno
	}{
		{install(good[:50]), api.ErrForm},
		{install(make([]byte, api.MaxPack+1)), api.ErrLarge},
		{install(stranger.Bytes("s", 6, x)), api.ErrSign},
		{late, api.ErrChain},
		{install(pack.Bytes(otherFile)), api.ErrDigest},
		{install(h.Bytes("n", 6, file("a/../b", 'a', 1))), api.ErrName},
		{install(h.Bytes("b", 5, x)), api.ErrBack},
		{install(h.Bytes("w", 6, wide...)), api.ErrRoom},
	} {
		s := play.Run(disk, h.Trust(), install(good), query(), c.act, query(), start(), query())
		if s.Told[2].Err != c.want || !audit.Same(s.Told[1], s.Told[3]) || !audit.Same(s.Told[1], s.Told[5]) || s.Told[1].Name != "good" {
			t.Error(i, s.Told)
		}
		first := play.Run(disk, h.Trust(), c.act, query())
		if i < 6 && first.Told[0].Err != c.want || i < 6 && !audit.Same(first.Last, api.Answer{}) {
			t.Error("first", i, first.Told)
		}
	}
}

// P0.6: there is room just as the chapters reckon it.
func TestRoom(t *testing.T) {
	h := sample.NewHouse()
	state := func(name string) int {
		return node.Need(len(name) + 10)
	}
	for _, c := range []struct{ one, two int }{{0, 0}, {1, 0}, {64, 65}, {600, 600}, {3, 130}} {
		one, two := h.Bytes("one", 1, file("x", 'a', c.one)), h.Bytes("two", 2, file("x", 'b', c.two))
		// What is there stays till what comes is there too.
		need := 157 + 40 + node.Need(c.one) + state("one") + node.Need(c.two) + state("two")
		for n, want := range map[int]api.Errno{need: api.OK, need - 1: api.ErrRoom} {
			s := play.Run(n, h.Trust(), install(one), install(two), query())
			if s.Told[0].Err != api.OK || s.Told[1].Err != want || (s.Told[2].Name == "two") != (want == api.OK) {
				t.Error(c, n, s.Told)
			}
		}
	}
}
