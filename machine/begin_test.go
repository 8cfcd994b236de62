package machine_test

import (
	"encoding/hex"
	"testing"

	"ratchet/api"
	"ratchet/machine"
	"ratchet/wire"
)

// P14: both roles, and the limits at their ends.
func TestBegin(t *testing.T) {
	root, key := noiseKey(11), noiseKey(12)
	for _, skip := range []int{0, 1, 5, api.MaxSkip} {
		for _, room := range []int{0, 1, 7, api.MaxStore} {
			first := machine.Begin(api.Initiator, root, key, skip, room)
			if !sameState(first, api.State{HasPeer: true, Root: root, Peer: key, Skip: skip, Room: room}) {
				t.Errorf("initiator %d, %d: %v", skip, room, first)
			}
			second := machine.Begin(api.Responder, root, key, skip, room)
			if !sameState(second, api.State{HasOwn: true, Root: root, Priv: key, Pub: modelPublic(key), Skip: skip, Room: room}) {
				t.Errorf("responder %d, %d: %v", skip, room, second)
			}
			if !wire.ValidState(first) || !wire.ValidState(second) {
				t.Errorf("%d, %d: not valid", skip, room)
			}
		}
	}
}

func TestBeginRefused(t *testing.T) {
	root, key := noiseKey(11), noiseKey(12)
	for _, role := range []int{-1, 2, 3, 256, 1 << 32, 1<<32 + 1, -1 << 63} {
		if s := machine.Begin(role, root, key, 3, 4); !sameState(s, api.State{}) {
			t.Errorf("role %d: %v", role, s)
		}
	}
	for role := range 2 {
		for _, wrong := range []int{-1, api.MaxSkip + 1, 1 << 32, -1 << 63, 1<<63 - 1} {
			if s := machine.Begin(role, root, key, wrong, 4); !sameState(s, api.State{}) {
				t.Errorf("role %d, skip %d: %v", role, wrong, s)
			}
			if s := machine.Begin(role, root, key, 3, wrong); !sameState(s, api.State{}) {
				t.Errorf("role %d, room %d: %v", role, wrong, s)
			}
		}
	}
}

func TestRootKdf(t *testing.T) {
	for i := range uint64(30) {
		root, shared := noiseKey(i), noiseKey(i+100)
		if i == 0 {
			root, shared = api.Key{}, api.Key{}
		}
		gotRoot, gotChain := machine.RootKdf(root, shared)
		wantRoot, wantChain := modelRootKdf(root, shared)
		if gotRoot != wantRoot || gotChain != wantChain {
			t.Errorf("case %d: %x, %x", i, gotRoot, gotChain)
		}
	}
}

func TestChainKdf(t *testing.T) {
	for i := range uint64(30) {
		chain := noiseKey(i)
		next, mk := machine.ChainKdf(chain)
		if next != modelHmac(chain[:], []byte{2}) || mk != modelHmac(chain[:], []byte{1}) {
			t.Errorf("case %d: %x, %x", i, next, mk)
		}
	}
	next, mk := machine.ChainKdf(api.Key{})
	if next == mk {
		t.Error("the next chain key and the message key are the same")
	}
}

// The model stands on the library's Hmac: this is HMAC-SHA256 of RFC 4231,
// test case 2, to hold the model itself.
func TestModelHmac(t *testing.T) {
	got := modelHmac([]byte("Jefe"), []byte("what do ya want "), []byte("for nothing?"))
	if hex.EncodeToString(got[:]) != "5bdcc146bf60754e6a042426089575c75a003f089d2739839dec58b964ec3843" {
		t.Errorf("%x", got)
	}
}
