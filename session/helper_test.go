package session_test

import (
	"bytes"
	"crypto/sha256"
	"encoding/binary"
	"math/rand/v2"
	"reflect"
	"slices"
	"testing"

	"ratchet/api"
	"ratchet/journal"
	"ratchet/wire"
)

// noise is n bytes that hang on seed alone.
func noise(seed uint64, n int) []byte {
	b := make([]byte, n)
	x := seed*0x9e3779b97f4a7c15 + 0x1234567
	for i := range b {
		x ^= x << 13
		x ^= x >> 7
		x ^= x << 17
		b[i] = byte(x >> 32)
	}
	return b
}

func noiseKey(seed uint64) api.Key { return api.Key(noise(seed, 32)) }

func newDice(seed uint64) *rand.Rand { return rand.New(rand.NewPCG(seed, 7)) }

// setupOf is a setup with these limits.
func setupOf(skip, room, region int) api.Setup {
	return api.Setup{Root: noiseKey(1), Priv: noiseKey(2), Skip: skip, Room: room, Region: region}
}

func sameBytes(t *testing.T, what string, got, want []byte) {
	t.Helper()
	if bytes.Equal(got, want) {
		return
	}
	for i := range min(len(got), len(want)) {
		if got[i] != want[i] {
			t.Errorf("%s: of %d bytes, byte %d (sector %d) is %#x, want %#x", what, len(got), i, i/64, got[i], want[i])
			return
		}
	}
	t.Errorf("%s: %d bytes, want %d", what, len(got), len(want))
}

func checkCode(t *testing.T, what string, got, want int) {
	t.Helper()
	if got != want {
		t.Errorf("%s: code %d, want %d", what, got, want)
	}
}

// sameState takes an empty list and nil for the same, as the document does.
func sameState(a, b api.State) bool {
	x, y := a.Store, b.Store
	a.Store, b.Store = nil, nil
	return reflect.DeepEqual(a, b) && slices.Equal(x, y)
}

func sameSeen(a, b api.Seen) bool {
	return a.Code == b.Code && a.Seq == b.Seq && sameState(a.State, b.State)
}

func sameAnswer(a, b api.Answer) bool {
	return a.Code == b.Code && a.Epoch == b.Epoch && a.N == b.N && bytes.Equal(a.Out, b.Out)
}

func checkAnswer(t *testing.T, what string, got, want api.Answer) {
	t.Helper()
	if !sameAnswer(got, want) {
		t.Errorf("%s: code %d, position (%d, %d), %d bytes; want code %d, position (%d, %d), %d bytes", what,
			got.Code, got.Epoch, got.N, len(got.Out), want.Code, want.Epoch, want.N, len(want.Out))
	}
}

func answerOf(o api.Outcome) api.Answer {
	return api.Answer{Code: o.Code, Out: o.Out, Epoch: o.Epoch, N: o.N}
}

const guard = 70

// guarded is a list with memory of its own behind its end.
func guarded[T any](list []T, behind T) []T {
	return append(slices.Clone(list), slices.Repeat([]T{behind}, guard)...)[:len(list)]
}

func whole[T any](list []T) []T { return list[:cap(list)] }

func spoil(b []byte) {
	for i := range whole(b) {
		whole(b)[i] ^= 0xff
	}
}

// checkApart asks that no two lists share memory: a write into one, or into
// the memory behind its end, is not seen in another.
func checkApart(t *testing.T, what string, lists [][]byte) {
	t.Helper()
	var before [][]byte
	for _, list := range lists {
		before = append(before, slices.Clone(list))
	}
	for i, list := range lists {
		spoil(list)
		for j, other := range lists {
			if j != i && !bytes.Equal(other, before[j]) {
				t.Errorf("%s: the lists %d and %d share memory", what, i, j)
			}
		}
		spoil(list)
	}
}

// laid is an image of two regions that begin with these bytes.
func laid(region int, zero, one []byte) []byte {
	image := make([]byte, 128*region)
	copy(image, zero)
	copy(image[64*region:], one)
	return image
}

// record are the bytes of a record in whole sectors, by chapter 6 and the
// library's SHA-256.
func record(seq uint64, payload []byte) []byte {
	b := binary.BigEndian.AppendUint64([]byte{0x4a}, seq)
	b = binary.BigEndian.AppendUint32(b, uint32(len(payload)))
	digest := sha256.Sum256(slices.Concat(b, payload))
	b = slices.Concat(b, digest[:], make([]byte, 18), []byte{0xc7}, payload)
	return append(b, make([]byte, -len(b)&63)...)
}

// diskOf is a fresh disk of the state.
func diskOf(t *testing.T, region int, s api.State) []byte {
	t.Helper()
	image := journal.Format(region, wire.EncodeState(s))
	if len(image) == 0 || !wire.ValidState(s) {
		t.Fatal("a state that does not lie on a disk")
	}
	return image
}
