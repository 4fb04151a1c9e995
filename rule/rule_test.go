package rule_test

import (
	"math"
	"testing"

	"apostille/api"
	"apostille/cert"
	"apostille/ext"
	"apostille/rule"
	"apostille/sample"
)

// of is a certificate of certain extensions.
func of(l ...api.Ext) api.Cert {
	return sample.Cert(5, sample.Name("o", "c"), sample.EC(3), sample.Name("ca"), sample.EC(4), l...)
}

// broken is an extension of an ID (55 1d ..) whose Value is no thing.
func broken(last byte) api.Ext { return api.Ext{ID: []byte{0x55, 0x1d, last}, Value: []byte{1}} }

const basic, usage, uses, only = 0x13, 0x0f, 0x25, 0x1e

// P25.1
func TestHolds(t *testing.T) {
	for at, want := range map[int64]bool{sample.From: true, sample.From - 1: false, sample.Till: true, sample.Till + 1: false, 5000: true, math.MinInt64: false, math.MaxInt64: false} {
		if rule.Holds(of(), at) != want {
			t.Error(at)
		}
	}
	all := of(sample.Basic(3), sample.Usage(0), sample.Uses(9), sample.Only(sample.Name("x")))
	critical := of(sample.Basic(3), sample.Usage(0), broken(0x0e), broken(0x23))
	for i := range critical.Exts {
		critical.Exts[i].Critical = true
	}
	for i, c := range []struct {
		c    api.Cert
		want bool
	}{
		{all, true},
		{critical, true},
		{of(broken(basic)), false},
		{of(broken(usage)), false},
		{of(broken(uses)), false},
		{of(broken(only)), false},
		{of(api.Ext{ID: []byte{9}}), true},
		{of(api.Ext{ID: []byte{9}, Critical: true}), false},
	} {
		if rule.Holds(c.c, 5000) != c.want {
			t.Error(i)
		}
	}
}

// P25.1
func TestMay(t *testing.T) {
	for i, c := range []struct {
		c           api.Cert
		code, times bool
	}{
		{of(), false, false},
		{of(sample.Uses(3)), true, false},
		{of(sample.Uses(8)), false, true},
		{of(sample.Uses(1, 8, 3)), true, true},
		{of(sample.Uses(1, 2, 4)), false, false},
		{of(sample.Uses(3, 8), sample.Usage(0x80)), true, true},
		{of(sample.Uses(3, 8), sample.Usage(0xff)), true, true},
		{of(sample.Uses(3, 8), sample.Usage(0x7f)), false, false},
		{of(sample.Uses(3, 8), sample.Usage(0)), false, false},
		{of(sample.Usage(0x80)), false, false},
		{of(sample.Uses(3, 8), broken(usage)), false, false},
		{of(broken(uses)), false, false},
		{of(sample.Uses(3, 8), broken(basic), broken(only)), true, true},
	} {
		if rule.May(c.c, rule.Code) != c.code || rule.May(c.c, rule.Times) != c.times {
			t.Error(i)
		}
		for _, use := range []int{0, 3, -1, math.MaxInt} {
			if rule.May(c.c, use) {
				t.Error(i, use)
			}
		}
	}
}

// P25.1
func TestOver(t *testing.T) {
	for i, c := range []struct {
		c     api.Cert
		below int
		want  bool
	}{
		{of(), 0, false},
		{of(sample.Usage(4)), 0, false},
		{of(sample.Basic(-1)), 0, true},
		{of(sample.Basic(-1)), math.MaxInt, true},
		{of(sample.Basic(-1)), math.MinInt, true},
		{of(sample.Basic(0)), 0, true},
		{of(sample.Basic(0)), 1, false},
		{of(sample.Basic(2)), 2, true},
		{of(sample.Basic(2)), 3, false},
		{of(sample.Basic(2)), math.MinInt, true},
		{of(sample.Basic(-1), sample.Usage(4)), 0, true},
		{of(sample.Basic(-1), sample.Usage(0xfb)), 0, false},
		{of(sample.Basic(-1), broken(usage)), 0, false},
		{of(broken(basic)), 0, false},
		{of(broken(basic), sample.Usage(4)), 0, false},
		{of(sample.Basic(-1), broken(uses), broken(only)), 0, true},
		{of(api.Ext{ID: []byte{0x55, 0x1d, basic}, Value: []byte{0x30, 0}}), 0, false},
	} {
		if rule.Over(c.c, c.below) != c.want {
			t.Error(i)
		}
	}
}

// P25.1
func TestNamed(t *testing.T) {
	o := []api.Attr{{Kind: 10, Text: "o"}}
	for i, c := range []struct {
		c    api.Cert
		name []api.Attr
		want bool
	}{
		{of(), sample.Name("o", "c"), true},
		{of(), nil, true},
		{of(sample.Only(o)), sample.Name("o", "c"), true},
		{of(sample.Only(o)), o, true},
		{of(sample.Only(o)), sample.Name("x", "o"), false},
		{of(sample.Only(o)), nil, false},
		{of(sample.Only(sample.Name("x"), o)), sample.Name("o", "c"), true},
		{of(sample.Only(sample.Name("x"), sample.Name("o", "c", "d"))), sample.Name("o", "c"), false},
		{of(broken(only)), sample.Name("o", "c"), false},
		{of(sample.Only(o), broken(basic), broken(usage)), o, true},
	} {
		if rule.Named(c.c, c.name) != c.want {
			t.Error(i)
		}
	}
}

// P25.1
func TestGone(t *testing.T) {
	name, ca := sample.Name("ca"), sample.EC(4)
	by := func(l ...api.Ext) api.Cert { return sample.Cert(1, name, ca, name, ca, l...) }
	row := sample.Crl(name, ca, api.Gone{Serial: api.Nat{5}, At: 10}, api.Gone{Serial: api.Nat{6}, At: 0})
	late := row
	late.At = sample.Till
	late = sample.SignedCrl(late, ca)
	other := sample.Crl(name, ca, api.Gone{Serial: api.Nat{6}, At: 0})
	forged := sample.Crl(name, sample.EC(9), api.Gone{Serial: api.Nat{5}, At: 0})
	elsewhere := sample.Crl(sample.Name("x"), ca, api.Gone{Serial: api.Nat{5}, At: 0})
	for i, c := range []struct {
		by   api.Cert
		l    []api.Crl
		at   int64
		want bool
	}{
		{by(), []api.Crl{row}, 10, true},
		{by(), []api.Crl{row}, 9, false},
		{by(), []api.Crl{row}, math.MaxInt64, true},
		{by(), []api.Crl{late}, 10, true},
		{by(), []api.Crl{other, forged, elsewhere, row}, 10, true},
		{by(), []api.Crl{other, forged, elsewhere}, 10, false},
		{by(), nil, 10, false},
		{by(sample.Usage(2)), []api.Crl{row}, 10, true},
		{by(sample.Usage(0xfd)), []api.Crl{row}, 10, false},
		{by(broken(usage)), []api.Crl{row}, 10, false},
		{by(broken(basic)), []api.Crl{row}, 10, true},
		{sample.Cert(1, sample.Name("x"), ca, name, ca), []api.Crl{elsewhere}, 10, true},
	} {
		if rule.Gone(of(), c.by, c.l, c.at) != c.want {
			t.Error(i)
		}
	}
}

// P25.2
func TestUnchanged(t *testing.T) {
	c, kept := of(sample.Basic(1), sample.Usage(0xff), sample.Uses(3, 8), sample.Only(sample.Name("o"))), of(sample.Basic(1), sample.Usage(0xff), sample.Uses(3, 8), sample.Only(sample.Name("o")))
	rule.Holds(c, 5000)
	rule.May(c, rule.Code)
	rule.Over(c, 1)
	rule.Named(c, sample.Name("o"))
	rule.Gone(c, c, []api.Crl{sample.Crl(sample.Name("o", "c"), sample.EC(3))}, 5000)
	if !cert.Same(c, kept) || !ext.Is(c.Exts) {
		t.Error("what is handed in is changed")
	}
}
