package wire

import "ratchet/api"

// The bits of a record's second byte.
const (
	ownBit = 1 << iota
	peerBit
	sendBit
)

// keysOf and countersOf tell the order of a record's fields, for its writing
// and its reading alike.
func keysOf(s *api.State) [6]*api.Key {
	return [...]*api.Key{&s.Root, &s.Priv, &s.Pub, &s.Peer, &s.Send, &s.Recv}
}

func countersOf(s *api.State) [5]*uint32 {
	return [...]*uint32{&s.SendEpoch, &s.RecvEpoch, &s.Ns, &s.Nr, &s.Pn}
}

// appendState is for valid states only: the numbers of these fit their fields.
func appendState(b []byte, s api.State) []byte {
	b = append(b, api.StateMark, bitsOf(s))
	for _, key := range keysOf(&s) {
		b = append(b, key[:]...)
	}
	for _, counter := range countersOf(&s) {
		b = appendU32(b, *counter)
	}
	b = appendU32(b, uint32(s.Skip))
	b = appendU32(b, uint32(s.Room))
	b = appendU32(b, uint32(len(s.Store)))
	for _, e := range s.Store {
		b = appendEntry(b, e)
	}
	return b
}

func bitsOf(s api.State) byte {
	var bits byte
	if s.HasOwn {
		bits |= ownBit
	}
	if s.HasPeer {
		bits |= peerBit
	}
	if s.HasSend {
		bits |= sendBit
	}
	return bits
}

func appendEntry(b []byte, e api.Skipped) []byte {
	b = appendU32(b, e.Epoch)
	b = appendU32(b, e.N)
	b = append(b, e.Pub[:]...)
	return append(b, e.Key[:]...)
}

// measuresAsState asks that the entries fill the list exactly, so that a
// great number in a short list leads to no great store.
func measuresAsState(b []byte) bool {
	if len(b) < api.StateSize {
		return false
	}
	entries := reader{b[api.StateSize-wordSize:]}
	return uint64(len(b)) == api.StateSize+api.EntrySize*uint64(entries.u32())
}

func readState(b []byte) api.State {
	var s api.State
	r := reader{b[1:]}
	bits := r.take(1)[0]
	s.HasOwn, s.HasPeer, s.HasSend = bits&ownBit != 0, bits&peerBit != 0, bits&sendBit != 0
	for _, key := range keysOf(&s) {
		*key = r.key()
	}
	for _, counter := range countersOf(&s) {
		*counter = r.u32()
	}
	s.Skip, s.Room = int(r.u32()), int(r.u32())
	for range r.u32() {
		s.Store = append(s.Store, api.Skipped{Epoch: r.u32(), N: r.u32(), Pub: r.key(), Key: r.key()})
	}
	return s
}
