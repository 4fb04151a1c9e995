// Package copied is things in new memory, for layers that answer or keep what
// they were handed.
package copied

import (
	"bytes"
	"slices"

	"apostille/api"
)

// Cert is a certificate.
func Cert(c api.Cert) api.Cert {
	c.Serial = slices.Clone(c.Serial)
	c.Issuer = slices.Clone(c.Issuer)
	c.Subject = slices.Clone(c.Subject)
	c.Key.N = slices.Clone(c.Key.N)
	c.Key.P.X = slices.Clone(c.Key.P.X)
	c.Key.P.Y = slices.Clone(c.Key.P.Y)
	var l []api.Ext
	for _, x := range c.Exts {
		l = append(l, api.Ext{ID: bytes.Clone(x.ID), Critical: x.Critical, Value: bytes.Clone(x.Value)})
	}
	c.Exts = l
	c.Sig = bytes.Clone(c.Sig)
	return c
}

// Trust is trust.
func Trust(t api.Trust) api.Trust {
	var l []api.Cert
	for _, a := range t.Anchors {
		l = append(l, Cert(a))
	}
	return api.Trust{Anchors: l, Pin: bytes.Clone(t.Pin)}
}
