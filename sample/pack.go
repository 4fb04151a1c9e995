package sample

import (
	"apostille/api"
	"apostille/key"
	"apostille/list"
	"apostille/pack"
	"apostille/sha"
	"apostille/tlv"
)

// House is who publishes: an anchor, what stands between it and the
// publisher, the publisher, and who stamps.
type House struct {
	Root, Mid, Leaf, Stamper Signer
	Anchor                   api.Cert
	Certs                    []api.Cert // the publisher's, and the one between
	StampCert                api.Cert
}

// Names of a House.
func rootName() []api.Attr { return Name("house", "root") }
func midName() []api.Attr  { return Name("house", "mid") }

// NewHouse is a House; its publisher signs by RSA, all others by points.
func NewHouse() House {
	h := House{Root: EC(1001), Mid: EC(1002), Leaf: RSA(), Stamper: EC(1004)}
	h.Anchor = Cert(1, rootName(), h.Root, rootName(), h.Root, Basic(2), Usage(0x06))
	h.Certs = []api.Cert{
		Cert(3, Name("house", "leaf"), h.Leaf, midName(), h.Mid, Usage(0x80), Uses(3)),
		Cert(2, midName(), h.Mid, rootName(), h.Root, Basic(0), Usage(0x06)),
	}
	h.StampCert = Cert(4, Name("house", "stamper"), h.Stamper, midName(), h.Mid, Usage(0x80), Uses(8))
	return h
}

// Trust is trust in a House.
func (h House) Trust() api.Trust {
	return api.Trust{Anchors: []api.Cert{h.Anchor}, Pin: key.Digest(h.Leaf.Key)}
}

// Revoked is a row by the one between, of one serial.
func (h House) Revoked(serial uint32, at int64) api.Crl {
	return Crl(midName(), h.Mid, api.Gone{Serial: api.Nat{serial}, At: at})
}

// Manifest is what a package of files (by rising names) says of itself.
func Manifest(name string, counter uint64, files ...api.File) api.Manifest {
	m := api.Manifest{Name: name, Counter: counter}
	for _, f := range files {
		m.Files = append(m.Files, api.Entry{Path: f.Name, Size: len(f.Data), Digest: sha.Of(f.Data)})
	}
	return m
}

// Pack is a package of files, signed by the publisher, without a timestamp.
func (h House) Pack(m api.Manifest, files ...api.File) api.Pack {
	p := api.Pack{Certs: h.Certs}
	for _, f := range files {
		p.Files = append(p.Files, f.Data)
	}
	return h.Signed(p, tlv.Bytes(list.Node(m)))
}

// Signed is a package with that manifest, signed (anew) by the publisher.
func (h House) Signed(p api.Pack, manifest []byte) api.Pack {
	p.Manifest = manifest
	p.Sig = h.Leaf.Sign(sha.Of(manifest))
	return p
}

// Stamped is a package with a timestamp.
func (h House) Stamped(p api.Pack, at int64) api.Pack {
	p.Stamps = []api.Stamp{Stamp(p.Sig, at, h.StampCert, h.Stamper)}
	return p
}

// Bytes is the bytes of a package of files.
func (h House) Bytes(name string, counter uint64, files ...api.File) []byte {
	return pack.Bytes(h.Pack(Manifest(name, counter, files...), files...))
}
