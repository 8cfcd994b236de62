package prim_test

import (
	"bytes"
	"crypto/hkdf"
	"crypto/hmac"
	"crypto/sha256"
	"math"
	"testing"

	"ratchet/api"
	"ratchet/prim"
)

func wantedHmac(key, msg []byte) api.Key {
	h := hmac.New(sha256.New, key)
	h.Write(msg)
	return api.Key(h.Sum(nil))
}

func checkHmac(t *testing.T, key, msg []byte) {
	t.Helper()
	if got, want := prim.Hmac(key, msg), wantedHmac(key, msg); got != want {
		t.Errorf("a key of %d bytes, %d bytes: %x, want %x", len(key), len(msg), got, want)
	}
}

// P9: the values of RFC 4231.
func TestHmacVectors(t *testing.T) {
	long := bytes.Repeat([]byte{0xaa}, 131)
	for i, v := range []struct {
		key, msg []byte
		want     string
	}{
		{bytes.Repeat([]byte{0x0b}, 20), []byte("Hi There"), "b0344c61d8db38535ca8afceaf0bf12b881dc200c9833da726e9376c2e32cff7"},
		{[]byte("Jefe"), []byte("what do ya want for nothing?"), "5bdcc146bf60754e6a042426089575c75a003f089d2739839dec58b964ec3843"},
		{bytes.Repeat([]byte{0xaa}, 20), bytes.Repeat([]byte{0xdd}, 50), "773ea91e36800e46854db8ebd09181a72959098b3ef8c122d9635514ced565fe"},
		{long, []byte("Test Using Larger Than Block-Size Key - Hash Key First"), "60e431591ee0b67f0d8a26aacbf5b77f8e0bc6213728c5140546040f0ee37f54"},
		{long, []byte("This is a test using a larger than block-size key and a larger than block-size data. The key needs to be hashed before being used by the HMAC algorithm."), "9b09ffa71b942fcb27635fbcd5b0e944bfdc63644f0713938a7f51535c3a35e2"},
	} {
		if got := prim.Hmac(v.key, v.msg); got != hexKey(t, v.want) {
			t.Errorf("vector %d: %x, want %s", i, got, v.want)
		}
	}
}

func TestHmacLengths(t *testing.T) {
	key, msg := noise(11, 200), noise(12, 200)
	for n := range len(key) + 1 {
		checkHmac(t, key[:n], msg[:77])
		checkHmac(t, key[:n], nil)
		checkHmac(t, key[:41], msg[:n])
		checkHmac(t, nil, msg[:n])
	}
}

// A key of 64 bytes is used as it is, one of 65 gives way to its digest.
func TestHmacKeyOfABlock(t *testing.T) {
	key, msg := noise(13, 65), noise(14, 20)
	short64, short65 := prim.Sha256(key[:64]), prim.Sha256(key)
	if prim.Hmac(key[:64], msg) == prim.Hmac(short64[:], msg) {
		t.Error("a key of 64 bytes is replaced by its digest")
	}
	if prim.Hmac(key, msg) != prim.Hmac(short65[:], msg) {
		t.Error("a key of 65 bytes is not replaced by its digest")
	}
	if prim.Hmac(key[:63], msg) != prim.Hmac(append(key[:63:63], 0), msg) {
		t.Error("a key of 63 bytes is not filled up with a zero")
	}
}

func TestHmacMaxInput(t *testing.T) {
	big := noise(15, api.MaxInput+1)
	checkHmac(t, big[1:], nil)
	checkHmac(t, nil, big[1:])
	checkHmac(t, big[1:], big[:api.MaxInput])
	for i, got := range []api.Key{prim.Hmac(big, nil), prim.Hmac(nil, big), prim.Hmac(big, big), prim.Hmac(big, big[1:]), prim.Hmac(big[1:], big)} {
		if got != (api.Key{}) {
			t.Errorf("case %d past MaxInput: %x, want zero", i, got)
		}
	}
}

func checkHkdf(t *testing.T, salt, ikm, info []byte, n int) {
	t.Helper()
	want, err := hkdf.Key(sha256.New, ikm, salt, string(info), n)
	if err != nil {
		t.Fatal(err)
	}
	sameBytes(t, "Hkdf", prim.Hkdf(salt, ikm, info, n), want)
}

// P9: the values of RFC 5869.
func TestHkdfVectors(t *testing.T) {
	ikm := bytes.Repeat([]byte{0x0b}, 22)
	rise := func(from, to int) []byte {
		var b []byte
		for i := from; i <= to; i++ {
			b = append(b, byte(i))
		}
		return b
	}
	sameBytes(t, "vector 1", prim.Hkdf(rise(0, 0x0c), ikm, rise(0xf0, 0xf9), 42),
		unhex(t, "3cb25f25faacd57a90434f64d0362f2a2d2d0a90cf1a5a4c5db02d56ecc4c5bf34007208d5b887185865"))
	sameBytes(t, "vector 2", prim.Hkdf(rise(0x60, 0xaf), rise(0, 0x4f), rise(0xb0, 0xff), 82),
		unhex(t, "b11e398dc80327a1c8e7f78c596a49344f012eda2d4efad8a050cc4c19afa97c59045a99cac7827271cb41c65e590e09da3275600c2f09b8367793a9aca3db71cc30c58179ec3e87c14c01d5c1f3434f1d87"))
	sameBytes(t, "vector 3", prim.Hkdf(nil, ikm, nil, 42),
		unhex(t, "8da4e775a563c18f715f802a063c5a31b8a11f5c5ee1879ec3454e5f3c738d2d9d201395faa4b61a96c8"))
}

// Lengths up to MaxExpand, those of whole digests and of one byte more or less among them.
func TestHkdfLengths(t *testing.T) {
	salt, ikm, info := noise(21, 40), noise(22, 50), noise(23, 30)
	for n := range 200 {
		checkHkdf(t, salt, ikm, info, n)
	}
	for _, n := range []int{8127, 8128, 8129, api.MaxExpand - 1, api.MaxExpand} {
		checkHkdf(t, salt, ikm, info, n)
		checkHkdf(t, nil, nil, nil, n)
	}
}

func TestHkdfArguments(t *testing.T) {
	all := noise(24, 130)
	for _, n := range []int{0, 1, 31, 32, 63, 64, 65, 130} {
		checkHkdf(t, all[:n], all[:20], all[:10], 100)
		checkHkdf(t, all[:20], all[:n], all[:10], 100)
		checkHkdf(t, all[:20], all[:10], all[:n], 100)
	}
}

func TestHkdfRefusedLengths(t *testing.T) {
	for _, n := range []int{0, -1, -32, math.MinInt, api.MaxExpand + 1, api.MaxExpand + 32, math.MaxInt32, math.MaxInt} {
		if got := prim.Hkdf([]byte{1}, []byte{2}, []byte{3}, n); len(got) != 0 {
			t.Errorf("n = %d: %d bytes", n, len(got))
		}
	}
}

// With an info of MaxInput bytes more than that is hashed inside, and it is still answered.
func TestHkdfMaxInput(t *testing.T) {
	big := noise(25, api.MaxInput+1)
	checkHkdf(t, big[1:], nil, nil, 40)
	checkHkdf(t, nil, big[1:], nil, 40)
	checkHkdf(t, nil, nil, big[1:], 80)
	for i, got := range [][]byte{prim.Hkdf(big, nil, nil, 40), prim.Hkdf(nil, big, nil, 40), prim.Hkdf(nil, nil, big, 40), prim.Hkdf(big, big, big, 0)} {
		if len(got) != 0 {
			t.Errorf("case %d past MaxInput: %d bytes", i, len(got))
		}
	}
}
