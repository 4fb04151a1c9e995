package inst

import (
	"apostille/api"
	"apostille/atom"
	"apostille/tlv"
)

const (
	stateName = "state"
	tagSeq    = 0x30
)

// state is what the file of that name says.
type state struct {
	side    int
	counter uint64
	name    string
}

// prefix is how the names of a side's files begin.
func prefix(side int) string {
	if side == 0 {
		return "a/"
	}
	return "b/"
}

// state is what is installed: whether something is, and whether what is said
// of it may be.
func (i *Inst) state() (s state, some, ok bool) {
	b, some := i.files.Get(stateName)
	if !some {
		return state{}, false, true
	}
	s, ok = read(b)
	return s, ok, ok
}

// bytes is what the file holds.
func (s state) bytes() []byte {
	return tlv.Bytes(atom.Seq(tagSeq, atom.Small(uint64(s.side)), atom.Small(s.counter), atom.Text(s.name)))
}

// read is the state that bytes say.
func read(b []byte) (state, bool) {
	n, e := tlv.Read(b)
	if e != api.OK {
		return state{}, false
	}
	kids, ok := atom.GetSeq(n, tagSeq)
	if !ok || len(kids) != 3 {
		return state{}, false
	}
	side, ok := atom.GetSmall(kids[0])
	counter, ok2 := atom.GetSmall(kids[1])
	name, ok3 := atom.GetText(kids[2])
	if !ok || !ok2 || !ok3 || side > 1 {
		return state{}, false
	}
	return state{side: int(side), counter: counter, name: name}, true
}
