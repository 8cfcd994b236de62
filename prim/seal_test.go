package prim_test

import (
	"crypto/hkdf"
	"crypto/sha256"
	"encoding/binary"
	"slices"
	"testing"

	"ratchet/api"
	"ratchet/prim"
)

// wantedOkm is the 80 bytes that a message key stands for.
func wantedOkm(t *testing.T, mk api.Key) []byte {
	t.Helper()
	okm, err := hkdf.Key(sha256.New, mk[:], make([]byte, 32), "ratchet seal", 80)
	if err != nil {
		t.Fatal(err)
	}
	return okm
}

// wantedTag takes ad and body of any length.
func wantedTag(t *testing.T, mk api.Key, ad, body []byte) api.Key {
	t.Helper()
	text := binary.BigEndian.AppendUint64(nil, uint64(len(ad)))
	return wantedHmac(wantedOkm(t, mk)[32:64], slices.Concat(text, ad, body))
}

func wantedSeal(t *testing.T, mk api.Key, ad, plain []byte) api.Sealed {
	t.Helper()
	okm := wantedOkm(t, mk)
	body := wantedCtr(t, api.Key(okm[:32]), api.Block(okm[64:]), plain)
	return api.Sealed{Body: body, Tag: wantedTag(t, mk, ad, body)}
}

// checkSeal holds Seal against the document and opens what it answered.
func checkSeal(t *testing.T, mk api.Key, ad, plain []byte) {
	t.Helper()
	got, want := prim.Seal(mk, ad, plain), wantedSeal(t, mk, ad, plain)
	sameBytes(t, "body", got.Body, want.Body)
	if got.Tag != want.Tag {
		t.Errorf("ad of %d, plain of %d bytes: tag %x, want %x", len(ad), len(plain), got.Tag, want.Tag)
	}
	text, ok := prim.Open(mk, ad, want)
	if !ok {
		t.Errorf("ad of %d, plain of %d bytes: not opened", len(ad), len(plain))
	}
	sameBytes(t, "opened", text, plain)
}

func checkRefused(t *testing.T, what string, mk api.Key, ad []byte, sealed api.Sealed) {
	t.Helper()
	if text, ok := prim.Open(mk, ad, sealed); ok || len(text) != 0 {
		t.Errorf("%s: opened to %d bytes, %v", what, len(text), ok)
	}
}

// P11: ordinary lengths, with ad of 41 bytes as a frame's header has.
func TestSealLengths(t *testing.T) {
	all := noise(41, 400)
	for n := range 100 {
		checkSeal(t, noiseKey(uint64(n)), all[:41], all[:n])
		checkSeal(t, noiseKey(uint64(n)), all[:n], all[n:2*n])
	}
	for _, n := range []int{255, 256, 257, 400} {
		checkSeal(t, api.Key{}, all[:n], all)
	}
}

func TestSealMaxInput(t *testing.T) {
	mk, big := noiseKey(42), noise(43, api.MaxInput+1)
	checkSeal(t, mk, big[1:], big[:api.MaxInput])
	checkSeal(t, mk, nil, big[1:])
	checkSeal(t, mk, big[1:], nil)
	for i, got := range []api.Sealed{prim.Seal(mk, big, nil), prim.Seal(mk, nil, big), prim.Seal(mk, big, big[1:])} {
		if len(got.Body) != 0 || got.Tag != (api.Key{}) {
			t.Errorf("case %d past MaxInput: %d bytes, tag %x", i, len(got.Body), got.Tag)
		}
	}
	checkRefused(t, "an ad past MaxInput", mk, big, api.Sealed{Body: big[:9], Tag: wantedTag(t, mk, big, big[:9])})
	checkRefused(t, "an ad past MaxInput, no body", mk, big, api.Sealed{Tag: wantedTag(t, mk, big, nil)})
	checkRefused(t, "a body past MaxInput", mk, nil, api.Sealed{Body: big, Tag: wantedTag(t, mk, nil, big)})
}

func TestOpenOfAnEmptyBody(t *testing.T) {
	mk, ad := noiseKey(44), noise(45, 41)
	for _, header := range [][]byte{nil, {}, ad} {
		right := api.Sealed{Tag: wantedTag(t, mk, header, nil)}
		if text, ok := prim.Open(mk, header, right); !ok || len(text) != 0 {
			t.Errorf("%d bytes, %v", len(text), ok)
		}
		right.Tag[7] ^= 1
		checkRefused(t, "an empty body with a wrong tag", mk, header, right)
	}
	checkRefused(t, "nothing with a zero tag", mk, nil, api.Sealed{})
}

// Each bit of each of the 32 bytes decides, alone and with all bytes ahead of it wrong.
func TestOpenTagBits(t *testing.T) {
	mk, ad := noiseKey(46), noise(47, 41)
	for _, n := range []int{0, 1, 33} {
		right := wantedSeal(t, mk, ad, noise(48, n))
		for bit := range 256 {
			wrong := right
			wrong.Tag[bit/8] ^= 1 << (bit % 8)
			checkRefused(t, "a tag of one wrong bit", mk, ad, wrong)
		}
		for end := range 32 {
			wrong := right
			for i := range end + 1 {
				wrong.Tag[i] ^= 0x5a
			}
			checkRefused(t, "a tag of wrong first bytes", mk, ad, wrong)
		}
		pair := right
		pair.Tag[3], pair.Tag[19] = pair.Tag[3]^0x11, pair.Tag[19]^0x11
		checkRefused(t, "a tag of two like differences", mk, ad, pair)
	}
}

func TestOpenBodyBits(t *testing.T) {
	mk, ad := noiseKey(49), noise(50, 41)
	right := wantedSeal(t, mk, ad, noise(51, 20))
	for bit := range 160 {
		wrong := api.Sealed{Body: slices.Clone(right.Body), Tag: right.Tag}
		wrong.Body[bit/8] ^= 1 << (bit % 8)
		checkRefused(t, "a body of one wrong bit", mk, ad, wrong)
	}
	checkRefused(t, "a shorter body", mk, ad, api.Sealed{Body: right.Body[:19], Tag: right.Tag})
	checkRefused(t, "a longer body", mk, ad, api.Sealed{Body: append(slices.Clone(right.Body), 0), Tag: right.Tag})
	checkRefused(t, "no body", mk, ad, api.Sealed{Tag: right.Tag})
}

func TestOpenAdBits(t *testing.T) {
	mk, ad := noiseKey(52), noise(53, 41)
	right := wantedSeal(t, mk, ad, noise(54, 20))
	for bit := range 8 * len(ad) {
		wrong := slices.Clone(ad)
		wrong[bit/8] ^= 1 << (bit % 8)
		checkRefused(t, "an ad of one wrong bit", mk, wrong, right)
	}
	checkRefused(t, "a shorter ad", mk, ad[:40], right)
	checkRefused(t, "a longer ad", mk, append(slices.Clone(ad), 0), right)
	checkRefused(t, "no ad", mk, nil, right)
	longer := slices.Concat(ad, right.Body[:1])
	checkRefused(t, "a byte moved from body to ad", mk, longer, api.Sealed{Body: right.Body[1:], Tag: right.Tag})
}

func TestOpenKeyBits(t *testing.T) {
	mk, ad := noiseKey(55), noise(56, 41)
	right := wantedSeal(t, mk, ad, noise(57, 20))
	for bit := range 256 {
		wrong := mk
		wrong[bit/8] ^= 1 << (bit % 8)
		checkRefused(t, "a key of one wrong bit", wrong, ad, right)
	}
}
