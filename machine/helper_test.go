package machine_test

import (
	"bytes"
	"encoding/binary"
	"reflect"
	"slices"
	"testing"

	"ratchet/api"
	"ratchet/machine"
)

// noise is n bytes that hang on seed alone.
func noise(seed uint64, n int) []byte {
	b := make([]byte, n)
	x := seed*0x9e3779b97f4a7c15 + 0x1234567
	for i := range b {
		x ^= x << 13
		x ^= x >> 7
		x ^= x << 17
		b[i] = byte(x >> 32)
	}
	return b
}

func noiseKey(seed uint64) api.Key { return api.Key(noise(seed, 32)) }

// sameState takes an empty list and nil for the same, as the document does.
func sameState(a, b api.State) bool {
	x, y := a.Store, b.Store
	a.Store, b.Store = nil, nil
	return reflect.DeepEqual(a, b) && slices.Equal(x, y)
}

func sameTurn(a, b api.Turn) bool {
	return a.Code == b.Code && a.Epoch == b.Epoch && a.N == b.N && bytes.Equal(a.Out, b.Out) && sameState(a.State, b.State)
}

const guard = 40

// guarded is a list with memory of its own behind its end.
func guarded[T any](list []T, behind T) []T {
	return append(slices.Clone(list), slices.Repeat([]T{behind}, guard)...)[:len(list)]
}

func whole[T any](list []T) []T { return list[:cap(list)] }

func spoil(turn api.Turn) {
	for i := range whole(turn.Out) {
		whole(turn.Out)[i] ^= 0xff
	}
	for i := range whole(turn.State.Store) {
		whole(turn.State.Store)[i].Key[0] ^= 0xff
		whole(turn.State.Store)[i].N++
	}
}

// checkTurn makes a call on guarded lists and holds it against the model. It
// asks that the lists and the memory behind them are left alone, by the call
// and by a write into its answer, and that a spoilt answer does not come back.
func checkTurn(t *testing.T, what string, s api.State, list []byte, call func(api.State, []byte) api.Turn, want api.Turn) api.Turn {
	t.Helper()
	s.Store, list = guarded(s.Store, api.Skipped{Epoch: 77, N: 77}), guarded(list, 0xa5)
	store, given := slices.Clone(whole(s.Store)), slices.Clone(whole(list))
	unchanged := func(when string) {
		t.Helper()
		if !slices.Equal(whole(s.Store), store) || !bytes.Equal(whole(list), given) {
			t.Errorf("%s: an argument, or the memory behind it, is changed by %s", what, when)
		}
	}
	first := call(s, list)
	unchanged("the call")
	if !sameTurn(first, want) {
		t.Errorf("%s: code %d, position (%d, %d), %d bytes, %d entries; want code %d, position (%d, %d), %d bytes, %d entries; same state: %v",
			what, first.Code, first.Epoch, first.N, len(first.Out), len(first.State.Store),
			want.Code, want.Epoch, want.N, len(want.Out), len(want.State.Store), sameState(first.State, want.State))
	}
	spoil(first)
	unchanged("a write into the answer")
	again := call(s, list)
	spoil(api.Turn{State: s, Out: list})
	if !sameTurn(again, want) {
		t.Errorf("%s: once more: code %d, want %d", what, again.Code, want.Code)
	}
	return again
}

func checkEncrypt(t *testing.T, what string, s api.State, plain []byte, seed api.Key) api.Turn {
	t.Helper()
	call := func(s api.State, list []byte) api.Turn { return machine.Encrypt(s, list, seed) }
	return checkTurn(t, what, s, plain, call, modelEncrypt(s, plain, seed))
}

func checkDecrypt(t *testing.T, what string, s api.State, frame []byte) api.Turn {
	t.Helper()
	return checkTurn(t, what, s, frame, machine.Decrypt, modelDecrypt(s, frame))
}

func checkCode(t *testing.T, what string, got, want int) {
	t.Helper()
	if got != want {
		t.Errorf("%s: code %d, want %d", what, got, want)
	}
}

// checkRefused asks that a refused call hands back the state that went in, and
// nothing else (P6).
func checkRefused(t *testing.T, what string, turn api.Turn, s api.State) {
	t.Helper()
	if turn.Code == api.Bad {
		s = api.State{}
	}
	if len(turn.Out) != 0 || turn.Epoch != 0 || turn.N != 0 || !sameState(turn.State, s) {
		t.Errorf("%s: refused with %d, but %d bytes, position (%d, %d), same state: %v",
			what, turn.Code, len(turn.Out), turn.Epoch, turn.N, sameState(turn.State, s))
	}
}

// A pair of parties: their states and the frames that they have sent, by name.
// The name of a frame is the message in it.
type pair struct {
	t      *testing.T
	states [2]api.State
	frames map[string][]byte
	seeds  uint64
}

func newPair(t *testing.T, skip, room int) *pair {
	priv := noiseKey(1)
	return &pair{t: t, frames: map[string][]byte{}, seeds: 100, states: [2]api.State{
		machine.Begin(api.Initiator, noiseKey(2), modelPublic(priv), skip, room),
		machine.Begin(api.Responder, noiseKey(2), priv, skip, room),
	}}
}

func (p *pair) send(who int, names ...string) {
	p.t.Helper()
	for _, name := range names {
		p.seeds++
		turn := checkEncrypt(p.t, name, p.states[who], []byte(name), noiseKey(p.seeds))
		checkCode(p.t, "send "+name, turn.Code, api.OK)
		p.states[who], p.frames[name] = turn.State, turn.Out
	}
}

// get hands a frame to a party and asks for its code and, with OK, for its
// message.
func (p *pair) get(who int, name string, code int) {
	p.t.Helper()
	turn := checkDecrypt(p.t, name, p.states[who], p.frames[name])
	checkCode(p.t, "get "+name, turn.Code, code)
	if turn.Code != api.OK {
		checkRefused(p.t, name, turn, p.states[who])
	} else if string(turn.Out) != name {
		p.t.Errorf("get %s: %q", name, turn.Out)
	}
	p.states[who] = turn.State
}

func (p *pair) getAll(who int, names ...string) {
	p.t.Helper()
	for _, name := range names {
		p.get(who, name, api.OK)
	}
}

func (p *pair) kept(who, want int) {
	p.t.Helper()
	if n := len(p.states[who].Store); n != want {
		p.t.Errorf("party %d keeps %d keys, want %d", who, n, want)
	}
}

func putU32(b []byte, at int, x uint32) []byte {
	b = slices.Clone(b)
	binary.BigEndian.PutUint32(b[at:], x)
	return b
}
