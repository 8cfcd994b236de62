package prim_test

import (
	"bytes"
	"encoding/hex"
	"strings"
	"testing"

	"ratchet/api"
)

// unhex reads hex digits; blanks between them do not count.
func unhex(t *testing.T, s string) []byte {
	t.Helper()
	b, err := hex.DecodeString(strings.ReplaceAll(s, " ", ""))
	if err != nil {
		t.Fatal(err)
	}
	return b
}

func hexKey(t *testing.T, s string) api.Key {
	t.Helper()
	b := unhex(t, s)
	if len(b) != len(api.Key{}) {
		t.Fatalf("%d bytes are no key", len(b))
	}
	return api.Key(b)
}

// noise is n bytes that hang on seed alone.
func noise(seed uint64, n int) []byte {
	b := make([]byte, n)
	x := seed*0x9e3779b97f4a7c15 + 0x1234567
	for i := range b {
		x ^= x << 13
		x ^= x >> 7
		x ^= x << 17
		b[i] = byte(x >> 32)
	}
	return b
}

func noiseKey(seed uint64) api.Key { return api.Key(noise(seed, 32)) }

func noiseBlock(seed uint64) api.Block { return api.Block(noise(seed, 16)) }

// sameBytes takes an empty list and nil for the same, as the document does.
func sameBytes(t *testing.T, what string, got, want []byte) {
	t.Helper()
	if !bytes.Equal(got, want) {
		t.Errorf("%s: %d bytes that begin %x, want %d bytes that begin %x",
			what, len(got), got[:min(len(got), 48)], len(want), want[:min(len(want), 48)])
	}
}
