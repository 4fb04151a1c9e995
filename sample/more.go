package sample

import (
	"apostille/api"
	"apostille/crl"
	"apostille/sha"
	"apostille/stamp"
)

// Crl is a row of what an issuer revoked, signed: serials and times.
func Crl(by []api.Attr, signer Signer, gone ...api.Gone) api.Crl {
	return SignedCrl(api.Crl{Issuer: by, At: From, Next: Till, Gone: gone}, signer)
}

// SignedCrl is a row, signed (anew).
func SignedCrl(l api.Crl, by Signer) api.Crl {
	l.Sig = []byte{0}
	l.Sig = by.Sign(crl.Digest(l))
	return l
}

// Stamp is a timestamp of a signature, signed by a certificate's key.
func Stamp(sig []byte, at int64, c api.Cert, by Signer) api.Stamp {
	s := api.Stamp{Digest: sha.Of(sig), At: at, Cert: c, Sig: []byte{0}}
	s.Sig = by.Sign(stamp.Digest(s))
	return s
}
