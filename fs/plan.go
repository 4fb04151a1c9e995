package fs

import (
	"maps"
	"slices"

	"apostille/api"
	"apostille/jour"
	"apostille/node"
	"apostille/room"
)

// fate is what becomes of a file: it is there with that data, or no more.
type fate struct {
	there bool
	data  []byte
}

// plan is what is written, and what the slots hold behind it.
type plan struct {
	nodes  [slots]node.Node
	used   [slots]bool // had by a file at the beginning, or given
	free   []int       // places that have not been given
	writes []api.Write
}

// fates is what becomes of each file of which something is told, in order.
func (f *FS) fates(l []api.Op) (map[string]fate, api.Errno) {
	fates := map[string]fate{}
	for _, op := range l {
		name, data := op.File.Name, op.File.Data
		if !op.Drop {
			if !node.Is(node.Node{Name: name}) || len(data) > api.MaxFile {
				return nil, api.ErrArg
			}
			fates[name] = fate{there: true, data: data}
			continue
		}
		old, told := fates[name]
		if told && !old.there || !told && f.slot(name) < 0 {
			return nil, api.ErrNone
		}
		fates[name] = fate{}
	}
	return fates, api.OK
}

// reckon is how fates come about; false, if there is no room.
func (f *FS) reckon(fates map[string]fate) (plan, bool) {
	p := plan{nodes: f.nodes}
	want := 0
	for _, x := range fates {
		want += node.Need(len(x.data))
	}
	free, ok := room.Take(f.held(), jour.Many(f.disk), want)
	if !ok {
		return plan{}, false
	}
	p.free = free
	for slot := range f.files() {
		p.used[slot] = true
	}
	names := slices.Sorted(maps.Keys(fates))
	for _, name := range names {
		if fates[name].there && !p.put(f.slot(name), name, fates[name].data) {
			return plan{}, false
		}
	}
	for _, name := range names {
		if slot := f.slot(name); !fates[name].there && slot >= 0 {
			p.nodes[slot] = node.Node{}
			p.write(slot, nil)
		}
	}
	return p, len(p.writes) <= api.MaxTx
}

// put plans a file, in the slot it had, or (-1) in a new one; false, if there is none.
func (p *plan) put(slot int, name string, data []byte) bool {
	if slot < 0 {
		slot = p.give()
	}
	if slot < 0 {
		return false
	}
	n := node.Node{Name: name, Size: len(data)}
	for at := 0; at < len(data); at += api.Sector {
		n.Places = append(n.Places, p.free[0])
		p.write(p.free[0], data[at:min(at+api.Sector, len(data))])
		p.free = p.free[1:]
	}
	p.nodes[slot] = n
	p.write(slot, node.Bytes(n))
	return true
}

// give gives the first slot that may be given; -1, if there is none.
func (p *plan) give() int {
	for slot, used := range p.used {
		if !used {
			p.used[slot] = true
			return slot
		}
	}
	return -1
}

// write plans one place: these bytes, and noughts.
func (p *plan) write(at int, b []byte) {
	data := make([]byte, api.Sector)
	copy(data, b)
	p.writes = append(p.writes, api.Write{At: at, Data: data})
}
