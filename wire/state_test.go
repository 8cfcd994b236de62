package wire_test

import (
	"encoding/binary"
	"slices"
	"testing"

	"ratchet/api"
	"ratchet/wire"
)

// fullState has every field set, each to a value of its own.
func fullState() api.State {
	return api.State{
		HasOwn: true, HasPeer: true, HasSend: true,
		Root: noiseKey(1), Priv: noiseKey(2), Pub: noiseKey(3), Peer: noiseKey(4), Send: noiseKey(5), Recv: noiseKey(6),
		SendEpoch: 0x01020304, RecvEpoch: 0x05060708, Ns: 0x090a0b0c, Nr: 0x0d0e0f10, Pn: 0x11121314,
		Skip: 0x0102, Room: 0x0203,
		Store: []api.Skipped{
			{Epoch: 1, N: 5, Pub: noiseKey(7), Key: noiseKey(8)},
			{Epoch: 1, N: 0x21222324, Pub: noiseKey(7), Key: noiseKey(9)},
			{Epoch: 0x05060707, N: 0, Pub: noiseKey(10), Key: noiseKey(11)},
			{Epoch: 0x05060708, N: 0, Pub: noiseKey(12), Key: noiseKey(13)},
			{Epoch: 0x05060708, N: 0x0d0e0f0f, Pub: noiseKey(4), Key: noiseKey(14)},
		},
	}
}

// freshState is an initiator's first state: little is set.
func freshState() api.State {
	return api.State{HasPeer: true, Root: noiseKey(21), Peer: noiseKey(22), Skip: 3, Room: 4}
}

// storedState has n entries and room for them, but no more.
func storedState(n int) api.State {
	s := fullState()
	s.Store, s.Room = nil, n
	for i := range n {
		e := api.Skipped{Epoch: uint32(1 + i/100), N: uint32(i % 100), Pub: noiseKey(uint64(i)), Key: noiseKey(uint64(i + 1))}
		s.Store = append(s.Store, e)
	}
	return s
}

// P13: each field at its place, by bytes that are written down here.
func TestStateFields(t *testing.T) {
	s := fullState()
	b := wire.EncodeState(s)
	if len(b) != 226+5*72 {
		t.Fatalf("%d bytes", len(b))
	}
	sameBytes(t, "mark and bits", b[:2], []byte{1, 7})
	for i, key := range []api.Key{s.Root, s.Priv, s.Pub, s.Peer, s.Send, s.Recv} {
		sameBytes(t, "key", b[2+32*i:34+32*i], key[:])
	}
	for i := range 20 {
		sameBytes(t, "counter", b[194+i:195+i], []byte{byte(i + 1)})
	}
	sameBytes(t, "limits and number of entries", b[214:226], []byte{0, 0, 1, 2, 0, 0, 2, 3, 0, 0, 0, 5})
	sameBytes(t, "position of the second entry", b[298:306], []byte{0, 0, 0, 1, 0x21, 0x22, 0x23, 0x24})
	sameBytes(t, "keys of the second entry", b[306:370], slices.Concat(s.Store[1].Pub[:], s.Store[1].Key[:]))
}

func TestStateBitsOfTheRecord(t *testing.T) {
	s := freshState()
	sameBytes(t, "the peer's key alone", wire.EncodeState(s)[:2], []byte{1, 2})
	s.HasOwn, s.HasPeer, s.Peer, s.Priv = true, false, api.Key{}, noiseKey(23)
	sameBytes(t, "the own pair alone", wire.EncodeState(s)[:2], []byte{1, 1})
	s.HasPeer = true
	sameBytes(t, "both", wire.EncodeState(s)[:2], []byte{1, 3})
}

// A change makes another state of a good one.
type change struct {
	name string
	make func(s *api.State)
}

func allowed() []change {
	return []change{
		{"as it is", func(s *api.State) {}},
		{"the limits at their ends", func(s *api.State) { s.Skip, s.Room = api.MaxSkip, api.MaxStore }},
		{"no skip", func(s *api.State) { s.Skip = 0 }},
		{"a full store", func(s *api.State) { s.Room = len(s.Store) }},
		{"no room and no entry", func(s *api.State) { s.Store, s.Room = nil, 0 }},
		{"an empty store", func(s *api.State) { s.Store = []api.Skipped{} }},
		{"no sending chain now", func(s *api.State) { s.HasSend, s.Send = false, api.Key{} }},
		{"no sending chain ever", func(s *api.State) { s.HasSend, s.Send, s.SendEpoch, s.Ns, s.Pn = false, api.Key{}, 0, 0, 0 }},
		{"no receiving chain ever", func(s *api.State) { s.RecvEpoch, s.Nr, s.Recv, s.Store = 0, 0, api.Key{}, nil }},
		{"keys that are there and zero", func(s *api.State) {
			s.Root, s.Priv, s.Pub, s.Peer, s.Send, s.Recv = api.Key{}, api.Key{}, api.Key{}, api.Key{}, api.Key{}, api.Key{}
		}},
		{"counters at their ends", func(s *api.State) {
			s.SendEpoch, s.RecvEpoch, s.Ns, s.Nr, s.Pn = api.MaxCounter, api.MaxCounter, api.MaxCounter, api.MaxCounter, api.MaxCounter
		}},
		{"nothing sent or got yet in the chains", func(s *api.State) { s.Ns, s.Nr, s.Pn, s.Store = 0, 0, 0, nil }},
		{"first chains", func(s *api.State) { s.SendEpoch, s.RecvEpoch, s.Store = 1, 1, nil }},
		{"Ns greater than Nr and Pn", func(s *api.State) { s.Ns = api.MaxCounter }},
		{"an entry at the end of an old chain", func(s *api.State) { s.Store[2].N = api.MaxCounter }},
		{"an entry of the first chain's first number", func(s *api.State) { s.Store[0].N = 0 }},
		{"entries of one epoch with two keys", func(s *api.State) { s.Store[1].Pub = noiseKey(31) }},
		{"entries of two epochs with one key", func(s *api.State) { s.Store[2].Pub = s.Store[1].Pub }},
		{"entries of zero keys", func(s *api.State) { s.Store[3].Pub, s.Store[3].Key = api.Key{}, api.Key{} }},
		{"neighbours in one epoch", func(s *api.State) { s.Store[1].N = 6 }},
		{"a later epoch with a smaller number", func(s *api.State) { s.Store[2].N = 4 }},
	}
}

func forbidden() []change {
	return slices.Concat(forbiddenLimits(), forbiddenKeys(), forbiddenEntries())
}

func forbiddenLimits() []change {
	return []change{
		{"rule 1: Skip -1", func(s *api.State) { s.Skip = -1 }},
		{"rule 1: Skip past its limit", func(s *api.State) { s.Skip = api.MaxSkip + 1 }},
		{"rule 1: Room -1", func(s *api.State) { s.Room, s.Store = -1, nil }},
		{"rule 1: Room past its limit", func(s *api.State) { s.Room = api.MaxStore + 1 }},
		{"rule 1: an entry more than Room", func(s *api.State) { s.Room = len(s.Store) - 1 }},
		{"rule 1: entries without room", func(s *api.State) { s.Room = 0 }},
		{"rule 1: an entry more than the limit of Room", func(s *api.State) { s.Store, s.Room = storedState(api.MaxStore+1).Store, api.MaxStore }},
	}
}

func forbiddenKeys() []change {
	return []change{
		{"rule 3: Priv without HasOwn", func(s *api.State) {
			*s = freshState()
			s.Priv = noiseKey(32)
		}},
		{"rule 3: Pub without HasOwn", func(s *api.State) {
			*s = freshState()
			s.Pub[31] = 1
		}},
		{"rule 3: Peer without HasPeer", func(s *api.State) {
			*s = freshState()
			s.HasOwn, s.HasPeer = true, false
		}},
		{"rule 3: Send without HasSend", func(s *api.State) { s.HasSend, s.Send = false, api.Key{31: 1} }},
		{"rule 4: Recv ahead of the first chain", func(s *api.State) { s.RecvEpoch, s.Nr, s.Store, s.Recv = 0, 0, nil, api.Key{31: 1} }},
		{"rule 4: Nr ahead of the first chain", func(s *api.State) { s.RecvEpoch, s.Recv, s.Store, s.Nr = 0, api.Key{}, nil, 1 }},
		{"rule 4: HasSend ahead of the first chain", func(s *api.State) { s.SendEpoch, s.Ns, s.Pn, s.Send = 0, 0, 0, api.Key{} }},
		{"rule 4: Ns ahead of the first chain", func(s *api.State) { s.HasSend, s.Send, s.SendEpoch, s.Ns, s.Pn = false, api.Key{}, 0, 1, 0 }},
		{"rule 4: Pn ahead of the first chain", func(s *api.State) { s.HasSend, s.Send, s.SendEpoch, s.Ns, s.Pn = false, api.Key{}, 0, 0, 1 }},
		{"rule 5: SendEpoch without HasOwn", func(s *api.State) {
			*s = freshState()
			s.SendEpoch = 1
		}},
		{"rule 5: SendEpoch without HasPeer", func(s *api.State) {
			*s = freshState()
			s.HasOwn, s.HasPeer, s.Peer, s.SendEpoch = true, false, api.Key{}, 1
		}},
		{"rule 5: RecvEpoch without HasOwn", func(s *api.State) {
			*s = freshState()
			s.RecvEpoch = 1
		}},
		{"rule 5: RecvEpoch without HasPeer", func(s *api.State) {
			*s = freshState()
			s.HasOwn, s.HasPeer, s.Peer, s.RecvEpoch = true, false, api.Key{}, 1
		}},
	}
}

func forbiddenEntries() []change {
	return []change{
		{"rule 6: an entry of epoch 0", func(s *api.State) { s.Store[0].Epoch = 0 }},
		{"rule 6: an entry past RecvEpoch", func(s *api.State) { s.Store[4].Epoch++ }},
		{"rule 6: an entry ahead of the first chain", func(s *api.State) { s.RecvEpoch, s.Nr, s.Recv, s.Store = 0, 0, api.Key{}, s.Store[:1] }},
		{"rule 6: an entry at Nr", func(s *api.State) { s.Store[4].N = s.Nr }},
		{"rule 6: an entry past Nr", func(s *api.State) { s.Store[4].N = api.MaxCounter }},
		{"rule 6: an earlier entry at Nr", func(s *api.State) { s.Store[0].Epoch, s.Store[0].N = s.RecvEpoch, s.Nr }},
		{"rule 6: an entry twice", func(s *api.State) { s.Store[1] = s.Store[0] }},
		{"rule 6: a position twice", func(s *api.State) { s.Store[4].N = 0 }},
		{"rule 6: a number that falls in one epoch", func(s *api.State) { s.Store[1].N = 4 }},
		{"rule 6: an epoch that falls", func(s *api.State) { s.Store[2].Epoch, s.Store[3].Epoch = s.RecvEpoch, s.RecvEpoch-1 }},
		{"rule 6: an epoch that falls under a number that grows", func(s *api.State) { s.Store[1].Epoch, s.Store[2].Epoch, s.Store[2].N = 3, 2, api.MaxCounter }},
		{"rule 6: entries out of order", func(s *api.State) { slices.Reverse(s.Store) }},
		{"rule 6: the last two out of order", func(s *api.State) { s.Store[3], s.Store[4] = s.Store[4], s.Store[3] }},
	}
}

func TestStatesThatAreAllowed(t *testing.T) {
	for _, c := range allowed() {
		s := fullState()
		c.make(&s)
		checkState(t, c.name, s)
	}
	checkState(t, "an initiator's first", freshState())
	checkState(t, "a responder's first", api.State{HasOwn: true, Root: noiseKey(1), Priv: noiseKey(2), Pub: noiseKey(3)})
	checkState(t, "only HasOwn", api.State{HasOwn: true})
	checkState(t, "only HasPeer", api.State{HasPeer: true})
	checkState(t, "both keys, no chain", api.State{HasOwn: true, HasPeer: true, Priv: noiseKey(2), Peer: noiseKey(3)})
}

func TestStatesThatAreForbidden(t *testing.T) {
	for _, c := range forbidden() {
		s := fullState()
		c.make(&s)
		checkInvalid(t, c.name, s)
	}
	checkInvalid(t, "rule 2: the zero state", api.State{})
	checkInvalid(t, "rule 2: neither key", api.State{Root: noiseKey(1), Skip: 5, Room: 5})
}

// Limits that would be right in the 4 bytes of their field have no bytes of
// their own.
func TestLimitsThatWrap(t *testing.T) {
	for _, far := range []int{-1 << 32, 1 << 32, 1 << 62} {
		skip, room := fullState(), fullState()
		skip.Skip += far
		room.Room += far
		for _, s := range []api.State{skip, room} {
			if wire.ValidState(s) || len(wire.EncodeState(s)) != 0 {
				t.Errorf("Skip %d, Room %d is taken", s.Skip, s.Room)
			}
		}
	}
}

func TestStoresOfManyLengths(t *testing.T) {
	for _, n := range []int{0, 1, 2, 3, 99, 100, 101, 255, 256, 257, api.MaxStore - 1, api.MaxStore} {
		checkState(t, "a store", storedState(n))
	}
	checkInvalid(t, "a store past its limit", storedState(api.MaxStore+1))
	checkInvalid(t, "a store far past its limit", storedState(5000))
}

func TestStateCutOrLonger(t *testing.T) {
	for _, s := range []api.State{freshState(), storedState(1), fullState()} {
		b := wantedState(s)
		for i := range b {
			checkNoState(t, "cut at its end", b[:i])
			checkNoState(t, "cut at its front", b[i+1:])
		}
		for _, more := range []int{1, 2, 71, 72, 73, 144, 226, 65536} {
			checkNoState(t, "longer", append(slices.Clone(b), make([]byte, more)...))
			checkNoState(t, "longer", append(slices.Clone(b), noise(41, more)...))
		}
		checkNoState(t, "twice", slices.Concat(b, b))
	}
	checkNoState(t, "nil", nil)
	checkNoState(t, "empty", []byte{})
	checkNoState(t, "all zero", make([]byte, 226))
}

func TestStateMarkAndBits(t *testing.T) {
	s := fullState()
	b := wantedState(s)
	for x := range 256 {
		if x != 0x01 {
			checkNoState(t, "another mark", slices.Concat([]byte{byte(x)}, b[1:]))
		}
		if x != 0x07 {
			checkNoState(t, "other bits", slices.Concat(b[:1], []byte{byte(x)}, b[2:]))
		}
	}
	small := wantedState(api.State{HasOwn: true, HasPeer: true})
	for x := range 256 {
		small[1] = byte(x)
		if _, ok := wire.DecodeState(small); ok != (x >= 1 && x <= 3) {
			t.Errorf("bits %08b: %v", x, ok)
		}
	}
}

func putU32(b []byte, at int, x uint32) []byte {
	b = slices.Clone(b)
	binary.BigEndian.PutUint32(b[at:], x)
	return b
}

// The numbers of the record that stand for an int, or that tell a length.
func TestStateNumbers(t *testing.T) {
	b := wantedState(fullState())
	for _, x := range []uint32{api.MaxSkip + 1, 0x10000, 0x01000000, 0x80000000, 0xfffffffb, api.MaxCounter} {
		checkNoState(t, "Skip", putU32(b, 214, x))
		checkNoState(t, "Room", putU32(b, 218, x))
		checkNoState(t, "number of entries", putU32(b, 222, x))
	}
	for _, x := range []uint32{0, 1, 4, 6, 5 + 1<<16, 5 + 1<<29, 5 + 1<<30} {
		checkNoState(t, "number of entries", putU32(b, 222, x))
	}
	checkNoState(t, "Room below the entries", putU32(b, 218, 4))
}

// Whatever is taken as a state is the encoding of what is read, and valid.
func TestStateBits(t *testing.T) {
	for _, s := range []api.State{fullState(), freshState(), storedState(2)} {
		b := wantedState(s)
		for bit := range 8 * len(b) {
			other := slices.Clone(b)
			other[bit/8] ^= 1 << (bit % 8)
			got, ok := wire.DecodeState(other)
			if !ok {
				checkNoState(t, "refused", other)
				continue
			}
			if sameState(got, s) || !wire.ValidState(got) {
				t.Errorf("bit %d: the state that was, or none", bit)
			}
			sameBytes(t, "the encoding of what was read", wantedState(got), other)
		}
	}
}
