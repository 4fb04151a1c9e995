package sample

import (
	"bytes"
	"slices"

	"apostille/api"
	"apostille/atom"
	"apostille/cert"
	"apostille/dn"
	"apostille/tlv"
)

// From and Till are when certificates of Cert hold.
const (
	From = 1000
	Till = 9000
)

// Name is a name: organisations one in another, and a common name last.
func Name(l ...string) []api.Attr {
	var name []api.Attr
	for i, s := range l {
		a := api.Attr{Kind: 10, Text: s}
		if i == len(l)-1 {
			a.Kind = 3
		}
		name = append(name, a)
	}
	return name
}

// said is an extension whose Value is a thing.
func said(last byte, n api.Node) api.Ext {
	return api.Ext{ID: []byte{0x55, 0x1d, last}, Value: tlv.Bytes(n)}
}

// Basic is the extension of a CA with so many between; -1: any.
func Basic(path int) api.Ext {
	l := []api.Node{atom.Bool(true)}
	if path >= 0 {
		l = append(l, atom.Small(uint64(path)))
	}
	return said(0x13, atom.Seq(0x30, l...))
}

// Usage is the extension of what a key is for.
func Usage(u byte) api.Ext {
	return said(0x0f, atom.Bits([]byte{u}))
}

// Uses is the extension of uses; 3: code, 8: times.
func Uses(l ...byte) api.Ext {
	var ids []api.Node
	for _, c := range l {
		ids = append(ids, atom.ID([]byte{0x2b, 6, 1, 5, 5, 7, 3, c}))
	}
	return said(0x25, atom.Seq(0x30, ids...))
}

// Only is the extension of the names that one may sign for.
func Only(l ...[]api.Attr) api.Ext {
	var names []api.Node
	for _, name := range l {
		names = append(names, dn.Node(name))
	}
	return said(0x1e, atom.Seq(0x30, names...))
}

// Exts is extensions in their order.
func Exts(l ...api.Ext) []api.Ext {
	return slices.SortedFunc(slices.Values(l), func(a, b api.Ext) int { return bytes.Compare(a.ID, b.ID) })
}

// Signed is a certificate, signed (anew).
func Signed(c api.Cert, by Signer) api.Cert {
	c.Sig = []byte{0}
	c.Sig = by.Sign(cert.Digest(c))
	return c
}

// Cert is a certificate of a key, for a name, signed by another one's.
func Cert(serial uint32, name []api.Attr, key Signer, by []api.Attr, signer Signer, exts ...api.Ext) api.Cert {
	c := api.Cert{Serial: api.Nat{serial}, Issuer: by, From: From, Till: Till, Subject: name, Key: key.Key, Exts: Exts(exts...)}
	return Signed(c, signer)
}
