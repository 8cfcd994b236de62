package wire_test

import (
	"bytes"
	"encoding/binary"
	"reflect"
	"slices"
	"testing"

	"ratchet/api"
	"ratchet/wire"
)

// noise is n bytes that hang on seed alone.
func noise(seed uint64, n int) []byte {
	b := make([]byte, n)
	x := seed*0x9e3779b97f4a7c15 + 0x1234567
	for i := range b {
		x ^= x << 13
		x ^= x >> 7
		x ^= x << 17
		b[i] = byte(x >> 32)
	}
	return b
}

func noiseKey(seed uint64) api.Key { return api.Key(noise(seed, 32)) }

func noiseU32(seed uint64) uint32 { return binary.BigEndian.Uint32(noise(seed, 4)) }

// wantedFrame is the table of 4.1, for a body of any length.
func wantedFrame(f api.Frame) []byte {
	b := slices.Concat([]byte{0xd2}, f.Head.Pub[:])
	b = binary.BigEndian.AppendUint32(b, f.Head.Pn)
	b = binary.BigEndian.AppendUint32(b, f.Head.N)
	b = binary.BigEndian.AppendUint32(b, uint32(len(f.Body)))
	return slices.Concat(b, f.Body, f.Tag[:])
}

// wantedState is the table of 4.2, for states that are not valid too.
func wantedState(s api.State) []byte {
	b := []byte{0x01, 0}
	for i, has := range []bool{s.HasOwn, s.HasPeer, s.HasSend} {
		if has {
			b[1] += 1 << i
		}
	}
	b = slices.Concat(b, s.Root[:], s.Priv[:], s.Pub[:], s.Peer[:], s.Send[:], s.Recv[:])
	for _, x := range []uint32{s.SendEpoch, s.RecvEpoch, s.Ns, s.Nr, s.Pn, uint32(s.Skip), uint32(s.Room), uint32(len(s.Store))} {
		b = binary.BigEndian.AppendUint32(b, x)
	}
	for _, e := range s.Store {
		b = binary.BigEndian.AppendUint32(b, e.Epoch)
		b = binary.BigEndian.AppendUint32(b, e.N)
		b = slices.Concat(b, e.Pub[:], e.Key[:])
	}
	return b
}

// sameFrame and sameState take an empty list and nil for the same, as the
// document does.
func sameFrame(a, b api.Frame) bool {
	return a.Head == b.Head && a.Tag == b.Tag && bytes.Equal(a.Body, b.Body)
}

func sameState(a, b api.State) bool {
	x, y := a.Store, b.Store
	a.Store, b.Store = nil, nil
	return reflect.DeepEqual(a, b) && slices.Equal(x, y)
}

func sameBytes(t *testing.T, what string, got, want []byte) {
	t.Helper()
	if !bytes.Equal(got, want) {
		t.Errorf("%s: %d bytes that begin %x, want %d bytes that begin %x",
			what, len(got), got[:min(len(got), 48)], len(want), want[:min(len(want), 48)])
	}
}

// checkFrame holds both directions of f against the document.
func checkFrame(t *testing.T, f api.Frame) {
	t.Helper()
	b := wantedFrame(f)
	sameBytes(t, "EncodeFrame", wire.EncodeFrame(f), b)
	if got, ok := wire.DecodeFrame(b); !ok || !sameFrame(got, f) {
		t.Errorf("DecodeFrame of a body of %d bytes: %v, head %v", len(f.Body), ok, got.Head)
	}
}

func checkNoFrame(t *testing.T, what string, b []byte) {
	t.Helper()
	if got, ok := wire.DecodeFrame(b); ok || !sameFrame(got, api.Frame{}) {
		t.Errorf("%s: %v, head %v, a body of %d bytes", what, ok, got.Head, len(got.Body))
	}
}

// checkState holds all three calls on a valid state against the document.
func checkState(t *testing.T, what string, s api.State) {
	t.Helper()
	b := wantedState(s)
	if !wire.ValidState(s) {
		t.Errorf("%s: not valid", what)
	}
	sameBytes(t, what, wire.EncodeState(s), b)
	if got, ok := wire.DecodeState(b); !ok || !sameState(got, s) {
		t.Errorf("%s: DecodeState answers %v and %d entries", what, ok, len(got.Store))
	}
}

// checkInvalid asks that neither s nor what would be its bytes is taken.
func checkInvalid(t *testing.T, what string, s api.State) {
	t.Helper()
	if wire.ValidState(s) {
		t.Errorf("%s: valid", what)
	}
	if b := wire.EncodeState(s); len(b) != 0 {
		t.Errorf("%s: encoded to %d bytes", what, len(b))
	}
	checkNoState(t, what, wantedState(s))
}

func checkNoState(t *testing.T, what string, b []byte) {
	t.Helper()
	if got, ok := wire.DecodeState(b); ok || !sameState(got, api.State{}) {
		t.Errorf("%s: DecodeState answers %v and %d entries", what, ok, len(got.Store))
	}
}
