package machine

import (
	"ratchet/api"
	"ratchet/prim"
)

// A draft is a state that a message is tried on. It has a store of its own, so
// that the state it was made of stays whole when the draft is thrown away.
type draft struct{ api.State }

func draftOf(s api.State) *draft { return &draft{copied(s)} }

// beginSending mixes a fresh pair, made of seed, into the root key.
func (d *draft) beginSending(seed api.Key) {
	d.Priv, d.Pub = seed, publicOf(seed)
	d.HasOwn, d.HasSend = true, true
	d.Pn, d.Ns = d.Ns, 0
	d.SendEpoch++
	d.Root, d.Send = RootKdf(d.Root, prim.X25519(seed, d.Peer))
}

// beginReceiving leaves the own pair as it is: the next pair is made when this
// party is about to send.
func (d *draft) beginReceiving(peer api.Key) {
	d.Root, d.Recv = RootKdf(d.Root, prim.X25519(d.Priv, peer))
	d.RecvEpoch++
	d.HasPeer, d.Peer = true, peer
	d.HasSend, d.Send = false, api.Key{}
	d.Nr = 0
}

// nextToSend takes a message key off the sending chain.
func (d *draft) nextToSend() api.Key {
	next, mk := ChainKdf(d.Send)
	d.Send = next
	d.Ns++
	return mk
}

// nextToReceive takes a message key off the receiving chain.
func (d *draft) nextToReceive() api.Key {
	next, mk := ChainKdf(d.Recv)
	d.Recv = next
	d.Nr++
	return mk
}

// skipTo keeps the keys of the present chain ahead of position n.
func (d *draft) skipTo(n uint32) {
	for d.Nr < n {
		entry := api.Skipped{Epoch: d.RecvEpoch, N: d.Nr, Pub: d.Peer}
		entry.Key = d.nextToReceive()
		d.Store = append(d.Store, entry)
	}
}
