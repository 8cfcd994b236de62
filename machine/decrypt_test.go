package machine_test

import (
	"slices"
	"testing"

	"ratchet/api"
	"ratchet/machine"
)

// keyFor is the message key under which s looks at a frame of this header, or
// any key where that one lies behind or too far ahead.
func keyFor(s api.State, head api.Header) api.Key {
	for _, e := range s.Store {
		if e.Pub == head.Pub && e.N == head.N {
			return e.Key
		}
	}
	chain, n := s.Recv, int(head.N)-int(s.Nr)
	if !inPresentChain(s, head) {
		_, chain = modelRootKdf(s.Root, modelX25519(s.Priv, head.Pub))
		n = int(head.N)
	}
	if n < 0 || n > 3000 {
		return noiseKey(51)
	}
	keys, _ := chainKeys(chain, uint32(n)+1)
	return keys[n]
}

// openable is a frame that s opens, where nothing but its tag decides.
func openable(s api.State, head api.Header) []byte {
	return modelFrame(head, keyFor(s, head), []byte("a message"))
}

// A decryption is a header that a changed midState is handed, and its code.
type decryption struct {
	name   string
	change func(s *api.State)
	head   api.Header
	code   int
}

func (d decryption) check(t *testing.T) {
	t.Helper()
	s := midState()
	d.change(&s)
	frame := openable(s, d.head)
	turn := checkDecrypt(t, d.name, s, frame)
	checkCode(t, d.name, turn.Code, d.code)
	wrong := d.code
	if d.code == api.OK {
		wrong = api.BadTag
		if string(turn.Out) != "a message" || turn.N != d.head.N {
			t.Errorf("%s: %q at %d", d.name, turn.Out, turn.N)
		}
	} else {
		checkRefused(t, d.name, turn, s)
	}
	for _, at := range []int{45, len(frame) - 32, len(frame) - 1} {
		forged := slices.Clone(frame)
		forged[at] ^= 0x10
		turn = checkDecrypt(t, d.name+", forged", s, forged)
		checkCode(t, d.name+", forged", turn.Code, wrong)
		checkRefused(t, d.name+", forged", turn, s)
	}
	cut := checkDecrypt(t, d.name+", cut", s, frame[:len(frame)-1])
	checkCode(t, d.name+", cut", cut.Code, api.Malformed)
	checkRefused(t, d.name+", cut", cut, s)
}

func present(n uint32) api.Header { return api.Header{Pub: noiseKey(24), Pn: 17, N: n} }

func fresh(pn, n uint32) api.Header { return api.Header{Pub: noiseKey(52), Pn: pn, N: n} }

func kept(n uint32) api.Header { return api.Header{Pub: noiseKey(27), Pn: 99, N: n} }

func asItIs(s *api.State) {}

func room(n int) func(s *api.State) { return func(s *api.State) { s.Room = n } }

func skip(n int) func(s *api.State) { return func(s *api.State) { s.Skip, s.Room = n, 500 } }

func expecting(n uint32) func(s *api.State) { return func(s *api.State) { s.Nr = n } }

func full(s *api.State) { s.Room = len(s.Store) }

func empty(s *api.State) { s.Store = nil }

func lastEpoch(s *api.State) { s.RecvEpoch = api.MaxCounter }

// In the present chain: midState expects number 5, skips 3 and has room for 2
// entries more.
func TestDecryptInThePresentChain(t *testing.T) {
	for _, d := range []decryption{
		{"the next one", asItIs, present(5), api.OK},
		{"the next one, a full store", full, present(5), api.OK},
		{"the next one, no limits at all", func(s *api.State) { s.Skip, s.Room, s.Store = 0, 0, nil }, present(5), api.OK},
		{"one skipped", asItIs, present(6), api.OK},
		{"one skipped, a full store", full, present(6), api.StoreFull},
		{"one skipped, Skip 0", skip(0), present(6), api.SkipLimit},
		{"one skipped, Skip 0 and a full store", func(s *api.State) { s.Skip = 0; full(s) }, present(6), api.SkipLimit},
		{"one skipped, Room 0", func(s *api.State) { s.Room, s.Store = 0, nil }, present(6), api.StoreFull},
		{"Room met exactly", asItIs, present(7), api.OK},
		{"Room passed by one", asItIs, present(8), api.StoreFull},
		{"Skip met exactly", room(7), present(8), api.OK},
		{"Skip passed by one", room(50), present(9), api.SkipLimit},
		{"Skip and Room passed by one", room(7), present(9), api.SkipLimit},
		{"Skip at its limit", skip(api.MaxSkip), present(505), api.StoreFull},
		{"Skip and Room at their limits", func(s *api.State) { s.Skip, s.Room = api.MaxSkip, api.MaxStore; empty(s) }, present(1005), api.OK},
		{"past Skip at its limit", func(s *api.State) { s.Skip, s.Room = api.MaxSkip, api.MaxStore; empty(s) }, present(1006), api.SkipLimit},
		{"far ahead", asItIs, present(api.MaxCounter - 1), api.SkipLimit},
		{"behind, nothing kept", asItIs, present(1), api.Old},
		{"just behind, nothing kept", empty, present(4), api.Old},
		{"the first one, nothing kept", empty, present(0), api.Old},
		{"behind, a full store", full, present(3), api.Old},
		{"N at its end", asItIs, present(api.MaxCounter), api.Counter},
		{"N at its end, as expected", expecting(api.MaxCounter), present(api.MaxCounter), api.Counter},
		{"N one ahead of its end", expecting(api.MaxCounter - 1), present(api.MaxCounter - 1), api.OK},
		{"N one ahead of its end, skipping", expecting(api.MaxCounter - 3), present(api.MaxCounter - 1), api.OK},
		{"behind a full chain", expecting(api.MaxCounter), present(api.MaxCounter - 1), api.Old},
		{"RecvEpoch at its end", lastEpoch, present(5), api.OK},
		{"RecvEpoch at its end, skipping", lastEpoch, present(7), api.OK},
		{"the peer's key is zero", func(s *api.State) { s.Peer = api.Key{} }, api.Header{N: 6}, api.OK},
	} {
		d.check(t)
	}
}

// In a new chain: the old one expects number 5.
func TestDecryptInANewChain(t *testing.T) {
	for _, d := range []decryption{
		{"the first one", asItIs, fresh(5, 0), api.OK},
		{"the first one, Pn below Nr", asItIs, fresh(4, 0), api.OK},
		{"the first one, Pn 0", full, fresh(0, 0), api.OK},
		{"the first one, no limits at all", func(s *api.State) { s.Skip, s.Room, s.Store = 0, 0, nil }, fresh(5, 0), api.OK},
		{"old row, Room met exactly", asItIs, fresh(7, 0), api.OK},
		{"old row, Room passed by one", asItIs, fresh(8, 0), api.StoreFull},
		{"old row, Skip met exactly", room(7), fresh(8, 0), api.OK},
		{"old row, Skip passed by one", room(50), fresh(9, 0), api.SkipLimit},
		{"old row, Skip 0", skip(0), fresh(6, 0), api.SkipLimit},
		{"old row, all that is", asItIs, fresh(api.MaxCounter, 0), api.SkipLimit},
		{"old row of an end", expecting(api.MaxCounter - 2), fresh(api.MaxCounter, 0), api.OK},
		{"new row, Room met exactly", asItIs, fresh(5, 2), api.OK},
		{"new row, Room passed by one", asItIs, fresh(5, 3), api.StoreFull},
		{"new row, Skip met exactly", room(7), fresh(1, 3), api.OK},
		{"new row, Skip passed by one", room(50), fresh(1, 4), api.SkipLimit},
		{"new row, Skip 0", skip(0), fresh(5, 1), api.SkipLimit},
		{"new row, far ahead", asItIs, fresh(5, api.MaxCounter-1), api.SkipLimit},
		{"both rows, Room met exactly", asItIs, fresh(6, 1), api.OK},
		{"both rows, Room passed by one in the new", asItIs, fresh(6, 2), api.StoreFull},
		{"both rows, Room passed by one in the old", asItIs, fresh(7, 1), api.StoreFull},
		{"both rows, Skip met by each", room(10), fresh(8, 3), api.OK},
		{"both rows, Skip met by each, Room passed by one", room(9), fresh(8, 3), api.StoreFull},
		{"both rows, Skip passed by the old", room(50), fresh(9, 3), api.SkipLimit},
		{"both rows, Skip passed by the new", room(50), fresh(8, 4), api.SkipLimit},
		{"both rows, Skip and Room passed", full, fresh(9, 4), api.SkipLimit},
		{"both rows, sums that wrap", asItIs, fresh(api.MaxCounter, 6), api.SkipLimit},
		{"both rows at their limits", func(s *api.State) { s.Skip, s.Room = 500, api.MaxStore; empty(s) }, fresh(505, 500), api.OK},
		{"both rows, past Room at its limit", func(s *api.State) { s.Skip, s.Room = 501, api.MaxStore; empty(s) }, fresh(505, 501), api.StoreFull},
		{"a full store, one skipped", full, fresh(6, 0), api.StoreFull},
		{"N at its end", asItIs, fresh(5, api.MaxCounter), api.Counter},
		{"RecvEpoch at its end", lastEpoch, fresh(5, 0), api.Counter},
		{"RecvEpoch at its end, past Skip", lastEpoch, fresh(5, 99), api.Counter},
		{"RecvEpoch at its end, past Room", lastEpoch, fresh(5, 3), api.Counter},
		{"RecvEpoch one ahead of its end", func(s *api.State) { s.RecvEpoch = api.MaxCounter - 1 }, fresh(6, 1), api.OK},
		{"no sending chain", func(s *api.State) { *s = quiet(*s) }, fresh(6, 1), api.OK},
		{"counters of sending at their ends", func(s *api.State) { s.Ns, s.Pn, s.SendEpoch = api.MaxCounter, api.MaxCounter, api.MaxCounter }, fresh(6, 1), api.OK},
		{"a header's key of zero", asItIs, api.Header{Pn: 5, N: 1}, api.OK},
		{"the own key as the header's", asItIs, api.Header{Pub: noiseKey(23), Pn: 5}, api.OK},
		{"the key of a chain that is over", asItIs, kept(8), api.SkipLimit},
		{"the key of a chain that is over, begun anew", asItIs, api.Header{Pub: noiseKey(27), Pn: 5, N: 1}, api.OK},
	} {
		d.check(t)
	}
}

// noChain has both keys, but no receiving chain yet.
func noChain(s *api.State) { s.RecvEpoch, s.Nr, s.Recv, s.Store = 0, 0, api.Key{}, nil }

// waiting has sent nothing and has no pair of its own.
func waiting(s *api.State) {
	*s = machine.Begin(api.Initiator, noiseKey(21), noiseKey(24), 3, 6)
}

func TestDecryptOfTheFirstChain(t *testing.T) {
	responder := func(s *api.State) {
		*s = machine.Begin(api.Responder, noiseKey(21), noiseKey(22), 3, 6)
	}
	for _, d := range []decryption{
		{"the first one", noChain, fresh(0, 0), api.OK},
		{"the first one, by the key that is known", noChain, present(0), api.OK},
		{"Pn is not looked at", noChain, fresh(api.MaxCounter, 3), api.OK},
		{"Skip passed by one", noChain, fresh(0, 4), api.SkipLimit},
		{"Skip passed by one, by the key that is known", noChain, present(4), api.SkipLimit},
		{"Room passed by one", func(s *api.State) { noChain(s); s.Room = 2 }, fresh(0, 3), api.StoreFull},
		{"a responder's first", responder, fresh(0, 0), api.OK},
		{"a responder's first, skipping", responder, fresh(5, 3), api.OK},
		{"a responder's first, a key of zero", responder, api.Header{}, api.OK},
		{"a responder, Skip passed by one", responder, fresh(0, 4), api.SkipLimit},
		{"an initiator that has sent nothing", waiting, fresh(0, 0), api.NotReady},
		{"an initiator that has sent nothing, the known key", waiting, present(0), api.NotReady},
		{"an initiator that has sent nothing, past Skip", waiting, fresh(99, 99), api.NotReady},
		{"an initiator that has sent nothing, past Room", func(s *api.State) { waiting(s); s.Room = 0 }, fresh(0, 3), api.NotReady},
		{"an initiator that has sent nothing, N at its end", waiting, fresh(0, api.MaxCounter), api.Counter},
	} {
		d.check(t)
	}
}

// The first entry with the header's key and number opens the frame or nothing
// does.
func TestDecryptByAKeptKey(t *testing.T) {
	twin := func(s *api.State) { s.Store[1].Pub, s.Store[1].N = s.Peer, 6 }
	for _, d := range []decryption{
		{"the first of two entries", asItIs, kept(7), api.OK},
		{"an entry of the present chain", asItIs, present(0), api.OK},
		{"the last entry", asItIs, present(4), api.OK},
		{"a full store", full, kept(7), api.OK},
		{"Skip 0", func(s *api.State) { s.Skip = 0 }, present(0), api.OK},
		{"RecvEpoch at its end", func(s *api.State) { s.RecvEpoch, s.Nr, s.Store[2].Epoch, s.Store[3].Epoch = api.MaxCounter, 0, 4, 4 }, present(4), api.OK},
		{"N at its end", func(s *api.State) { s.Store[1].N = api.MaxCounter }, kept(api.MaxCounter), api.Counter},
		{"N one ahead of its end", func(s *api.State) { s.Store[1].N = api.MaxCounter - 1 }, kept(api.MaxCounter - 1), api.OK},
		{"a position that the present chain has too", twin, present(6), api.OK},
	} {
		d.check(t)
	}
}

func checkTaken(t *testing.T, what string, turn api.Turn, s api.State, i int) {
	t.Helper()
	want := s
	want.Store = slices.Concat(s.Store[:i], s.Store[i+1:])
	if turn.Code != api.OK || turn.Epoch != s.Store[i].Epoch || turn.N != s.Store[i].N || !sameState(turn.State, want) {
		t.Errorf("%s: code %d, position (%d, %d), %d entries", what, turn.Code, turn.Epoch, turn.N, len(turn.State.Store))
	}
}

func TestDecryptOfTwins(t *testing.T) {
	s := midState()
	head := kept(7)
	second := modelFrame(head, s.Store[1].Key, nil)
	checkRefused(t, "the second entry's frame", checkDecrypt(t, "second", s, second), s)
	checkCode(t, "the second entry's frame", machine.Decrypt(s, second).Code, api.BadTag)
	turn := checkDecrypt(t, "the first entry's frame", s, modelFrame(head, s.Store[0].Key, nil))
	checkTaken(t, "the first entry's frame", turn, s, 0)
	s = turn.State
	checkTaken(t, "then the second's", checkDecrypt(t, "second", s, second), s, 0)

	s.Store[0].Pub, s.Store[0].N = s.Peer, 6
	keys, _ := chainKeys(s.Recv, 2)
	chains := checkDecrypt(t, "the chain's frame", s, modelFrame(present(6), keys[1], nil))
	checkCode(t, "the chain's frame at the number of an entry", chains.Code, api.BadTag)
	checkRefused(t, "the chain's frame at the number of an entry", chains, s)
	checkTaken(t, "the entry's frame", checkDecrypt(t, "entry", s, modelFrame(present(6), s.Store[0].Key, nil)), s, 0)
}

// An entry is for a key and a number, not for one of them, nor for its own
// place in the header.
func TestDecryptByNoKeptKey(t *testing.T) {
	for _, d := range []decryption{
		{"the key of an entry, another number", asItIs, kept(6), api.SkipLimit},
		{"the number of an entry, another key", asItIs, fresh(5, 7), api.SkipLimit},
		{"the number of an entry, in the present chain", asItIs, present(7), api.OK},
		{"Pn is the number of an entry", asItIs, api.Header{Pub: noiseKey(27), Pn: 7, N: 0}, api.OK},
	} {
		d.check(t)
	}
	s := midState()
	turn := checkDecrypt(t, "the present chain", s, openable(s, present(7)))
	if turn.Epoch != 3 || turn.State.Nr != 8 || len(turn.State.Store) != 6 {
		t.Errorf("position (%d, %d), %d entries", turn.Epoch, turn.N, len(turn.State.Store))
	}
}

// A new chain, field by field.
func TestDecryptBeginsAChain(t *testing.T) {
	s := midState()
	head := fresh(6, 1)
	turn := checkDecrypt(t, "a new chain", s, openable(s, head))
	want := s
	root, chain := modelRootKdf(s.Root, modelX25519(s.Priv, head.Pub))
	old, _ := chainKeys(s.Recv, 1)
	now, recv := chainKeys(chain, 2)
	want.Root, want.Recv, want.RecvEpoch, want.Peer, want.Nr = root, recv, 4, head.Pub, 2
	want.HasSend, want.Send = false, api.Key{}
	want.Store = append(slices.Clone(s.Store),
		api.Skipped{Epoch: 3, N: 5, Pub: s.Peer, Key: old[0]},
		api.Skipped{Epoch: 4, N: 0, Pub: head.Pub, Key: now[0]})
	if !sameTurn(turn, api.Turn{State: want, Out: []byte("a message"), Epoch: 4, N: 1}) {
		t.Errorf("code %d, position (%d, %d), state %v", turn.Code, turn.Epoch, turn.N, turn.State)
	}
}

// The two codes ahead of all that a frame says.
func TestDecryptOfNoStateOrNoFrame(t *testing.T) {
	good := openable(midState(), present(5))
	for _, s := range []api.State{{}, brokenState(), {HasOwn: true, Skip: -1}} {
		for _, frame := range [][]byte{good, nil, good[:5], openable(midState(), present(api.MaxCounter))} {
			turn := checkDecrypt(t, "no state", s, frame)
			checkCode(t, "no state", turn.Code, api.Bad)
			checkRefused(t, "no state", turn, s)
		}
	}
	for i, frame := range [][]byte{
		nil, {}, good[:1], good[:45], good[:76], good[1:], append(slices.Clone(good), 0),
		slices.Concat([]byte{0xd3}, good[1:]), putU32(good, 41, 8), putU32(good, 41, 10), putU32(good, 41, api.MaxCounter),
		openable(midState(), present(api.MaxCounter))[:80],
		modelFrame(present(5), keyFor(midState(), present(5)), make([]byte, api.MaxPlain+1)),
	} {
		for _, s := range []api.State{midState(), machine.Begin(api.Initiator, noiseKey(1), noiseKey(2), 0, 0)} {
			turn := checkDecrypt(t, "no frame", s, frame)
			checkRefused(t, "no frame", turn, s)
			if turn.Code != api.Malformed {
				t.Errorf("frame %d: code %d", i, turn.Code)
			}
		}
	}
}

func TestDecryptLengths(t *testing.T) {
	for _, n := range []int{0, 1, 15, 16, 17, 64, 1000, api.MaxPlain - 1, api.MaxPlain} {
		for _, head := range []api.Header{present(5), fresh(5, 1), kept(7)} {
			s, text := midState(), noise(53, n)
			turn := checkDecrypt(t, "a length", s, modelFrame(head, keyFor(s, head), text))
			if turn.Code != api.OK || !slices.Equal(turn.Out, text) {
				t.Errorf("a message of %d bytes: code %d, %d bytes", n, turn.Code, len(turn.Out))
			}
		}
	}
}

// Each bit of a frame decides: what differs in one bit is refused, and its
// code is that of the step that sees it first.
func TestDecryptBits(t *testing.T) {
	s := midState()
	s.Skip, s.Room = 300, 700
	for _, head := range []api.Header{present(5), fresh(5, 0), kept(7)} {
		frame := openable(s, head)
		for bit := range 8 * len(frame) {
			forged := slices.Clone(frame)
			forged[bit/8] ^= 1 << (bit % 8)
			turn := checkDecrypt(t, "one bit", s, forged)
			checkRefused(t, "one bit", turn, s)
			if turn.Code == api.OK || (bit/8 >= 45 && turn.Code != api.BadTag) {
				t.Errorf("bit %d: code %d", bit, turn.Code)
			}
		}
	}
}
