package prim

import (
	"math/big"
	"testing"

	"ratchet/api"
)

// P8: points that come at random hardly ever carry at the edges of the limbs,
// so the edges are asked here one by one, against numbers of any size.

func prime() *big.Int {
	p := new(big.Int).Lsh(big.NewInt(1), 255)
	return p.Sub(p, big.NewInt(19))
}

func number(f field) *big.Int {
	n := new(big.Int)
	for i := len(f) - 1; i >= 0; i-- {
		n.Lsh(n, 51)
		n.Add(n, new(big.Int).SetUint64(f[i]))
	}
	return n
}

// edgeFields are limbs at both ends of what the functions may answer.
func edgeFields() []field {
	const top, most = limbMask, limbMask + 1<<10
	fields := []field{
		{}, {1}, {18}, {19}, {20}, {121665},
		{top, top, top, top, top},
		{most, most, most, most, most},
		{most, 0, 0, 0, 0},
		{0, 0, 0, 0, most},
		{top - 18, top, top, top, top}, // p
		{top - 19, top, top, top, top}, // p - 1
		{top - 17, top, top, top, top}, // p + 1
		{0, top, top, top, top},
		{top, 0, top, 0, top},
		{0, top, 0, top, 0},
	}
	for i := range 5 {
		var one, all field
		one[i], all[i] = 1, top
		fields = append(fields, one, all)
	}
	return fields
}

func wantField(t *testing.T, what string, got field, want *big.Int) {
	t.Helper()
	if d := new(big.Int).Sub(number(got), want); d.Mod(d, prime()).Sign() != 0 {
		t.Errorf("%s: %x", what, got)
	}
	for i, limb := range got {
		if limb > limbMask+1<<10 {
			t.Errorf("%s: limb %d is %x, past its bound", what, i, limb)
		}
	}
}

func TestFieldPairs(t *testing.T) {
	for _, a := range edgeFields() {
		for _, b := range edgeFields() {
			x, y := number(a), number(b)
			wantField(t, "add", add(a, b), new(big.Int).Add(x, y))
			wantField(t, "sub", sub(a, b), new(big.Int).Sub(x, y))
			wantField(t, "mul", mul(a, b), new(big.Int).Mul(x, y))
		}
	}
}

func TestFieldSingles(t *testing.T) {
	exponent := new(big.Int).Sub(prime(), big.NewInt(2))
	for _, a := range edgeFields() {
		x := number(a)
		wantField(t, "square", square(a), new(big.Int).Mul(x, x))
		wantField(t, "inverse", inverse(a), new(big.Int).Exp(x, exponent, prime()))
	}
}

func bigKey(n *big.Int) api.Key {
	var k api.Key
	n.FillBytes(k[:])
	for i := range len(k) / 2 {
		k[i], k[31-i] = k[31-i], k[i]
	}
	return k
}

func TestFieldIsWrittenBelowP(t *testing.T) {
	for _, f := range edgeFields() {
		if got, want := keyOf(f), bigKey(new(big.Int).Mod(number(f), prime())); got != want {
			t.Errorf("%x is written %x, want %x", f, got, want)
		}
	}
}

func TestFieldIsReadWithoutItsTopBit(t *testing.T) {
	for _, f := range edgeFields() {
		n := number(f)
		if n.BitLen() > 255 {
			continue
		}
		k := bigKey(n)
		wantField(t, "read", fieldOf(k), n)
		k[31] |= 0x80
		wantField(t, "read with the top bit", fieldOf(k), n)
	}
}
