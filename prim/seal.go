package prim

import "ratchet/api"

const (
	sealInfo    = "ratchet seal"
	secretsSize = 80
)

// secrets are what one message key stands for.
type secrets struct {
	cipherKey, tagKey api.Key
	iv                api.Block
}

func secretsOf(mk api.Key) secrets {
	salt := api.Key{}
	okm := expand(mac(salt[:], mk[:]), []byte(sealInfo), secretsSize)
	return secrets{
		cipherKey: api.Key(okm[:32]),
		tagKey:    api.Key(okm[32:64]),
		iv:        api.Block(okm[64:secretsSize]),
	}
}

// tag goes over the length of ad too, so that no byte can move between ad
// and body under one tag.
func (s secrets) tag(ad, body []byte) api.Key {
	length := appendU64(nil, uint64(len(ad)))
	return mac(s.tagKey[:], length, ad, body)
}

// sameTag gathers the differences of all 32 bytes ahead of the one
// comparison, so that the first bytes alone decide nothing.
func sameTag(a, b api.Key) bool {
	var difference api.Key
	for i := range difference {
		difference[i] = a[i] ^ b[i]
	}
	return difference == api.Key{}
}
