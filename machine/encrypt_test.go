package machine_test

import (
	"testing"

	"ratchet/api"
	"ratchet/machine"
)

// midState is a party in the midst of a talk. Nothing in it hangs together
// but what the six rules ask: Pub is not the public key of Priv.
func midState() api.State {
	return api.State{
		HasOwn: true, HasPeer: true, HasSend: true,
		Root: noiseKey(21), Priv: noiseKey(22), Pub: noiseKey(23), Peer: noiseKey(24), Send: noiseKey(25), Recv: noiseKey(26),
		SendEpoch: 2, RecvEpoch: 3, Ns: 4, Nr: 5, Pn: 6, Skip: 3, Room: 6,
		Store: []api.Skipped{
			{Epoch: 1, N: 7, Pub: noiseKey(27), Key: noiseKey(28)},
			{Epoch: 2, N: 7, Pub: noiseKey(27), Key: noiseKey(29)},
			{Epoch: 3, N: 0, Pub: noiseKey(24), Key: noiseKey(30)},
			{Epoch: 3, N: 4, Pub: noiseKey(24), Key: noiseKey(31)},
		},
	}
}

// quiet is a state between two sending chains.
func quiet(s api.State) api.State {
	s.HasSend, s.Send = false, api.Key{}
	return s
}

func brokenState() api.State {
	s := midState()
	s.Store[0].Epoch = 0
	return s
}

// P14: a chain that begins, field by field.
func TestEncryptBeginsAChain(t *testing.T) {
	s, seed := quiet(midState()), noiseKey(33)
	turn := checkEncrypt(t, "a new chain", s, []byte("text"), seed)
	want := s
	want.HasSend, want.Priv, want.Pub, want.SendEpoch, want.Pn, want.Ns = true, seed, modelPublic(seed), 3, 4, 1
	root, chain := modelRootKdf(s.Root, modelX25519(seed, s.Peer))
	keys, send := chainKeys(chain, 1)
	want.Root, want.Send = root, send
	frame := modelFrame(api.Header{Pub: want.Pub, Pn: 4, N: 0}, keys[0], []byte("text"))
	if !sameTurn(turn, api.Turn{State: want, Out: frame, Epoch: 3, N: 0}) {
		t.Errorf("code %d, position (%d, %d), state %v", turn.Code, turn.Epoch, turn.N, turn.State)
	}
}

func TestEncryptGoesOnInItsChain(t *testing.T) {
	s := midState()
	turn := checkEncrypt(t, "the next message", s, []byte("text"), noiseKey(34))
	keys, send := chainKeys(s.Send, 1)
	want := s
	want.Send, want.Ns = send, 5
	frame := modelFrame(api.Header{Pub: s.Pub, Pn: 6, N: 4}, keys[0], []byte("text"))
	if !sameTurn(turn, api.Turn{State: want, Out: frame, Epoch: 2, N: 4}) {
		t.Errorf("code %d, position (%d, %d), state %v", turn.Code, turn.Epoch, turn.N, turn.State)
	}
	if other := checkEncrypt(t, "another seed", s, []byte("text"), api.Key{}); !sameTurn(other, turn) {
		t.Error("the seed is looked at within a chain")
	}
}

// The seed stands in the state as it was given, and a peer's key of any kind
// is taken.
func TestEncryptSeeds(t *testing.T) {
	s := machine.Begin(api.Initiator, noiseKey(1), noiseKey(2), 5, 5)
	ones := api.Key{}
	for i := range ones {
		ones[i] = 0xff
	}
	for i, seed := range []api.Key{{}, ones, {0: 7, 31: 0x80}, {9}, noiseKey(35)} {
		if turn := checkEncrypt(t, "a seed", s, nil, seed); turn.Code != api.OK || turn.State.Priv != seed {
			t.Errorf("seed %d: code %d, %x", i, turn.Code, turn.State.Priv)
		}
	}
	for _, peer := range []api.Key{{}, {1}, ones} {
		s.Peer = peer
		checkCode(t, "a peer of small order", checkEncrypt(t, "peer", s, []byte("x"), noiseKey(36)).Code, api.OK)
	}
}

func TestEncryptLengths(t *testing.T) {
	for n := range 70 {
		checkEncrypt(t, "a length", midState(), noise(37, n), noiseKey(38))
	}
	for n, code := range map[int]int{
		api.MaxPlain - 1: api.OK, api.MaxPlain: api.OK,
		api.MaxPlain + 1: api.TooLong, 2 * api.MaxPlain: api.TooLong, api.MaxInput + 1: api.TooLong,
	} {
		for _, s := range []api.State{midState(), quiet(midState())} {
			turn := checkEncrypt(t, "a long message", s, noise(39, n), noiseKey(38))
			checkCode(t, "a long message", turn.Code, code)
			if code == api.OK && len(turn.Out) != n+77 || code != api.OK && len(turn.Out) != 0 {
				t.Errorf("a message of %d bytes: a frame of %d", n, len(turn.Out))
			}
		}
	}
	empty := checkEncrypt(t, "no message", midState(), []byte{}, noiseKey(38))
	if empty.Code != api.OK || len(empty.Out) != 77 {
		t.Errorf("no message: code %d, %d bytes", empty.Code, len(empty.Out))
	}
}

// P6, and the order of the four steps: what is refused twice has the earlier
// code.
func TestEncryptRefusals(t *testing.T) {
	text, long := []byte("text"), make([]byte, api.MaxPlain+1)
	waiting := machine.Begin(api.Responder, noiseKey(1), noiseKey(2), 5, 5)
	atEnd, lastEpoch := midState(), quiet(midState())
	atEnd.Ns, lastEpoch.SendEpoch = api.MaxCounter, api.MaxCounter
	tooMany := midState()
	tooMany.Store = make([]api.Skipped, 3000)
	for _, c := range []struct {
		name  string
		s     api.State
		plain []byte
		code  int
	}{
		{"the zero state", api.State{}, text, api.Bad},
		{"a broken store", brokenState(), text, api.Bad},
		{"a store of too many", tooMany, text, api.Bad},
		{"a broken state and too long a message", brokenState(), long, api.Bad},
		{"too long", midState(), long, api.TooLong},
		{"too long, and no peer", waiting, long, api.TooLong},
		{"too long, and Ns at its end", atEnd, long, api.TooLong},
		{"too long, and SendEpoch at its end", lastEpoch, long, api.TooLong},
		{"no peer", waiting, text, api.NotReady},
		{"Ns at its end", atEnd, text, api.Counter},
		{"SendEpoch at its end", lastEpoch, text, api.Counter},
	} {
		turn := checkEncrypt(t, c.name, c.s, c.plain, noiseKey(40))
		checkCode(t, c.name, turn.Code, c.code)
		checkRefused(t, c.name, turn, c.s)
	}
}

// The counters one ahead of their ends, and the one that is not asked.
func TestEncryptCounters(t *testing.T) {
	s := midState()
	s.Ns = api.MaxCounter - 1
	last := checkEncrypt(t, "the last number", s, nil, noiseKey(41))
	if last.Code != api.OK || last.N != api.MaxCounter-1 || last.State.Ns != api.MaxCounter {
		t.Errorf("the last number: code %d, N %d", last.Code, last.N)
	}
	checkCode(t, "behind the last number", checkEncrypt(t, "behind it", last.State, nil, noiseKey(41)).Code, api.Counter)

	next := checkEncrypt(t, "a new chain behind a full one", quiet(last.State), nil, noiseKey(41))
	if next.Code != api.OK || next.N != 0 || next.State.Pn != api.MaxCounter || next.State.Ns != 1 {
		t.Errorf("a new chain behind a full one: code %d, N %d, Pn %d", next.Code, next.N, next.State.Pn)
	}

	s = quiet(midState())
	s.SendEpoch = api.MaxCounter - 1
	lastChain := checkEncrypt(t, "the last chain", s, nil, noiseKey(41))
	if lastChain.Code != api.OK || lastChain.Epoch != api.MaxCounter {
		t.Errorf("the last chain: code %d, epoch %d", lastChain.Code, lastChain.Epoch)
	}
	more := checkEncrypt(t, "within the last chain", lastChain.State, nil, noiseKey(41))
	if more.Code != api.OK || more.Epoch != api.MaxCounter || more.N != 1 {
		t.Errorf("within the last chain: code %d, position (%d, %d)", more.Code, more.Epoch, more.N)
	}
}
