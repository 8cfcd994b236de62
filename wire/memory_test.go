package wire_test

import (
	"bytes"
	"slices"
	"testing"

	"ratchet/api"
	"ratchet/wire"
)

const guard = 100

// guarded is b with memory of its own behind its end.
func guarded(b []byte) []byte {
	return append(slices.Clone(b), bytes.Repeat([]byte{0xa5}, guard)...)[:len(b)]
}

// whole is a list with the memory behind its end.
func whole[T any](list []T) []T { return list[:cap(list)] }

func spoil(b []byte) {
	for i := range whole(b) {
		whole(b)[i] ^= 0xff
	}
}

// checkLeft asks that neither the list nor the memory behind it is changed by
// the call, nor by a write into its answer.
func checkLeft[T comparable](t *testing.T, what string, list []T, call func() func()) {
	t.Helper()
	before := slices.Clone(whole(list))
	spoilAnswer := call()
	if !slices.Equal(whole(list), before) {
		t.Errorf("%s: the list, or the memory behind it, is changed by the call", what)
	}
	spoilAnswer()
	if !slices.Equal(whole(list), before) {
		t.Errorf("%s: the list is changed by a write into the answer", what)
	}
}

// P16.
func TestMemoryOfFrames(t *testing.T) {
	for _, n := range []int{0, 1, 50, api.MaxPlain, api.MaxPlain + 1} {
		f := noiseFrame(51, n)
		f.Body = guarded(f.Body)
		checkLeft(t, "EncodeFrame", f.Body, func() func() {
			b := wire.EncodeFrame(f)
			return func() { spoil(b) }
		})
		b := guarded(wantedFrame(f))
		checkLeft(t, "DecodeFrame", b, func() func() {
			got, _ := wire.DecodeFrame(b)
			return func() { spoil(got.Body) }
		})
		wrong := guarded(b[:len(b)-1])
		checkLeft(t, "DecodeFrame, refused", wrong, func() func() {
			got, _ := wire.DecodeFrame(wrong)
			return func() { spoil(got.Body) }
		})
	}
}

func TestMemoryOfStates(t *testing.T) {
	broken := fullState()
	broken.Store[0].Epoch = 0
	for _, s := range []api.State{freshState(), fullState(), storedState(api.MaxStore), broken} {
		s.Store = append(slices.Clone(s.Store), make([]api.Skipped, guard)...)[:len(s.Store)]
		whole(s.Store)[len(s.Store)].N = 77
		checkLeft(t, "ValidState", s.Store, func() func() {
			wire.ValidState(s)
			return func() {}
		})
		checkLeft(t, "EncodeState", s.Store, func() func() {
			b := wire.EncodeState(s)
			return func() { spoil(b) }
		})
		b := guarded(wantedState(s))
		checkLeft(t, "DecodeState", b, func() func() {
			got, _ := wire.DecodeState(b)
			return func() { clear(whole(got.Store)) }
		})
	}
}

// A spoilt answer does not come back, and an answer does not change with the
// list that it was read from.
func TestAnswersStandAlone(t *testing.T) {
	f := noiseFrame(52, 20)
	b := wantedFrame(f)
	first, _ := wire.DecodeFrame(b)
	spoil(wire.EncodeFrame(f))
	checkFrame(t, f)
	spoil(b)
	if !sameFrame(first, f) {
		t.Error("the frame has changed with its bytes")
	}
	s := fullState()
	record := wantedState(s)
	read, _ := wire.DecodeState(record)
	spoil(wire.EncodeState(s))
	spoil(record)
	if !sameState(read, s) {
		t.Error("the state has changed with its bytes")
	}
	clear(read.Store)
	checkState(t, "once more", fullState())
}
