package machine

import (
	"ratchet/api"
	"ratchet/prim"
)

const (
	keySize  = len(api.Key{})
	rootInfo = "ratchet root"

	// What a chain key is asked for its message key, and for the next chain key.
	messageStep = 0x01
	chainStep   = 0x02
)

func publicOf(priv api.Key) api.Key { return prim.X25519(priv, api.Key{9}) }
