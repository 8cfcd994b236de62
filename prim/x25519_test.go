package prim_test

import (
	"crypto/ecdh"
	"math/big"
	"testing"

	"ratchet/api"
	"ratchet/prim"
)

var basePoint = api.Key{9}

func prime() *big.Int {
	p := new(big.Int).Lsh(big.NewInt(1), 255)
	return p.Sub(p, big.NewInt(19))
}

// reversed turns between the two ends that a number may begin at.
func reversed(k api.Key) api.Key {
	for i := range len(k) / 2 {
		k[i], k[31-i] = k[31-i], k[i]
	}
	return k
}

func keyNumber(k api.Key) *big.Int {
	r := reversed(k)
	return new(big.Int).SetBytes(r[:])
}

func numberKey(n *big.Int) api.Key {
	var k api.Key
	n.FillBytes(k[:])
	return reversed(k)
}

// wantedX25519 is the ladder of the document on numbers of any size.
func wantedX25519(k, u api.Key) api.Key {
	p := prime()
	mod := func(n *big.Int) *big.Int { return n.Mod(n, p) }
	add := func(a, b *big.Int) *big.Int { return mod(new(big.Int).Add(a, b)) }
	sub := func(a, b *big.Int) *big.Int { return mod(new(big.Int).Sub(a, b)) }
	mul := func(a, b *big.Int) *big.Int { return mod(new(big.Int).Mul(a, b)) }
	k[0] &= 0xf8
	k[31] = k[31]&0x7f | 0x40
	u[31] &= 0x7f
	scalar, point := keyNumber(k), mod(keyNumber(u))
	x2, z2, x3, z3 := big.NewInt(1), big.NewInt(0), point, big.NewInt(1)
	for t := 254; t >= 0; t-- {
		bit := scalar.Bit(t)
		if bit == 1 {
			x2, z2, x3, z3 = x3, z3, x2, z2
		}
		a, b, c, d := add(x2, z2), sub(x2, z2), add(x3, z3), sub(x3, z3)
		aa, bb, da, cb := mul(a, a), mul(b, b), mul(d, a), mul(c, b)
		e := sub(aa, bb)
		sum, difference := add(da, cb), sub(da, cb)
		x2, z2 = mul(aa, bb), mul(e, add(aa, mul(big.NewInt(121665), e)))
		x3, z3 = mul(sum, sum), mul(point, mul(difference, difference))
		if bit == 1 {
			x2, z2, x3, z3 = x3, z3, x2, z2
		}
	}
	inverse := new(big.Int).Exp(z2, new(big.Int).Sub(p, big.NewInt(2)), p)
	return numberKey(mul(x2, inverse))
}

func checkX25519(t *testing.T, k, u api.Key) {
	t.Helper()
	if got, want := prim.X25519(k, u), wantedX25519(k, u); got != want {
		t.Errorf("X25519(%x, %x) = %x, want %x", k, u, got, want)
	}
}

// P8: the values of RFC 7748.
func TestX25519Vectors(t *testing.T) {
	for _, v := range [][3]string{
		{"a546e36bf0527c9d3b16154b82465edd62144c0ac1fc5a18506a2244ba449ac4", "e6db6867583030db3594c1a424b15f7c726624ec26b3353b10a903a6d0ab1c4c", "c3da55379de9c6908e94ea4df28d084f32eccf03491c71f754b4075577a28552"},
		{"4b66e9d4d1b4673c5ad22691957d6af5c11b6421e0ea01d42ca4169e7918ba0d", "e5210f12786811d3f4b7959d0538ae2c31dbe7106fc03c3efc4cd549c715a493", "95cbde9476e8907d7aade45cb4b873f88b595a68799fa152e6f8f7647aac7957"},
		{"77076d0a7318a57d3c16c17251b26645df4c2f87ebc0992ab177fba51db92c2a", "0900000000000000000000000000000000000000000000000000000000000000", "8520f0098930a754748b7ddcb43ef75a0dbf3a0d26381af4eba4a98eaa9b4e6a"},
		{"5dab087e624a8a4b79e17f8b83800ee66f3bb1292618b6fd1c2f8b27ff88e0eb", "8520f0098930a754748b7ddcb43ef75a0dbf3a0d26381af4eba4a98eaa9b4e6a", "4a5d9d5ba4ce2de1728e3bf480350f25e07e21c947d19e3376f09b3c1e161742"},
	} {
		if got := prim.X25519(hexKey(t, v[0]), hexKey(t, v[1])); got != hexKey(t, v[2]) {
			t.Errorf("X25519(%s, %s) = %x, want %s", v[0], v[1], got, v[2])
		}
	}
}

func TestX25519Rounds(t *testing.T) {
	k, u := basePoint, basePoint
	for round := range 1000 {
		k, u = prim.X25519(k, u), k
		if round == 0 && k != hexKey(t, "422c8e7a6227d7bca1350b3e2bb7279f7897b87bb6854b783c60e80311ae3079") {
			t.Errorf("behind one round: %x", k)
		}
	}
	if k != hexKey(t, "684cf59ba83309552800ef566f2f4d3c1c3887c49360e3875f2eb94d99532c51") {
		t.Errorf("behind 1000 rounds: %x", k)
	}
}

func TestX25519AsTheLibrary(t *testing.T) {
	for seed := range uint64(300) {
		k, u := noiseKey(2*seed), noiseKey(2*seed+1)
		private, err := ecdh.X25519().NewPrivateKey(k[:])
		if err != nil {
			t.Fatal(err)
		}
		public, err := ecdh.X25519().NewPublicKey(u[:])
		if err != nil {
			t.Fatal(err)
		}
		want, err := private.ECDH(public)
		if err != nil {
			t.Fatal(err)
		}
		if got := prim.X25519(k, u); got != api.Key(want) {
			t.Errorf("X25519(%x, %x) = %x, want %x", k, u, got, want)
		}
	}
}

// edgeKeys are numbers whose limbs are empty or full, whatever the limbs' size.
func edgeKeys() []api.Key {
	var full, low, high, odd api.Key
	for i := range full {
		full[i] = 0xff
		odd[i] = byte(i%2) * 0xff
		if i < 16 {
			low[i] = 0xff
		} else {
			high[i] = 0xff
		}
	}
	keys := []api.Key{{}, {2}, {9}, full, low, high, odd}
	for _, bit := range []int{51, 64, 102, 128, 153, 192, 204, 254} {
		var single api.Key
		single[bit/8] = 1 << (bit % 8)
		below := numberKey(new(big.Int).Sub(keyNumber(single), big.NewInt(1)))
		keys = append(keys, single, below)
	}
	return keys
}

func TestX25519Edges(t *testing.T) {
	for _, k := range edgeKeys() {
		for _, u := range edgeKeys() {
			checkX25519(t, k, u)
		}
	}
}

// The points p - 20 .. p + 18, the last of 255 bits, and the same with the top bit set.
func TestX25519AroundP(t *testing.T) {
	k := noiseKey(77)
	for distance := int64(-20); distance <= 18; distance++ {
		n := new(big.Int).Add(prime(), big.NewInt(distance))
		u := numberKey(n)
		small := numberKey(n.Mod(n, prime()))
		topped := u
		topped[31] |= 0x80
		checkX25519(t, k, u)
		if prim.X25519(k, u) != prim.X25519(k, small) {
			t.Errorf("p %+d is not taken modulo p", distance)
		}
		if prim.X25519(k, topped) != prim.X25519(k, u) {
			t.Errorf("the top bit of p %+d is looked at", distance)
		}
	}
}

// The points of small order give 0, and nothing refuses them.
func TestX25519ZeroPoints(t *testing.T) {
	points := []api.Key{
		{}, {1},
		hexKey(t, "e0eb7a7c3b41b8ae1656e3faf19fc46ada098deb9c32b1fd866205165f49b800"),
		hexKey(t, "5f9c95bca3508c24b1d0b1559c83ef5b04445cc4581c8e86d8224eddd09f1157"),
	}
	for _, distance := range []int64{-1, 0, 1} {
		points = append(points, numberKey(new(big.Int).Add(prime(), big.NewInt(distance))))
	}
	for i, u := range points {
		for _, k := range []api.Key{{}, {1, 2, 3}, noiseKey(5)} {
			if got := prim.X25519(k, u); got != (api.Key{}) {
				t.Errorf("point %d: %x", i, got)
			}
		}
	}
}

// Bits 0, 1, 2, 254 and 255 of the scalar are clamped; each of the others counts.
func TestX25519ScalarBits(t *testing.T) {
	k, u := noiseKey(8), noiseKey(9)
	want := prim.X25519(k, u)
	for bit := range 256 {
		other := k
		other[bit/8] ^= 1 << (bit % 8)
		clamped := bit < 3 || bit > 253
		if same := prim.X25519(other, u) == want; same != clamped {
			t.Errorf("bit %d of the scalar: the same answer: %v", bit, same)
		}
	}
}

func TestX25519PointBits(t *testing.T) {
	k, u := noiseKey(10), noiseKey(11)
	want := prim.X25519(k, u)
	for bit := range 256 {
		other := u
		other[bit/8] ^= 1 << (bit % 8)
		if same := prim.X25519(k, other) == want; same != (bit == 255) {
			t.Errorf("bit %d of the point: the same answer: %v", bit, same)
		}
	}
}

func TestX25519Agreement(t *testing.T) {
	keys := edgeKeys()
	for seed := range uint64(10) {
		keys = append(keys, noiseKey(100+seed))
	}
	for i, a := range keys {
		for _, b := range keys[:i+1] {
			left := prim.X25519(a, prim.X25519(b, basePoint))
			right := prim.X25519(b, prim.X25519(a, basePoint))
			if left != right || left == (api.Key{}) {
				t.Errorf("%x and %x share %x and %x", a, b, left, right)
			}
		}
	}
}
