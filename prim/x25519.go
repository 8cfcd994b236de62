package prim

import "ratchet/api"

// A rung holds the ladder's two points, (x2 : z2) and (x3 : z3).
type rung struct{ x2, z2, x3, z3 field }

// clamped clears the bits that the scalar must not have and sets its bit 254.
func clamped(k api.Key) api.Key {
	k[0] &^= 1 | 2 | 4
	k[31] &^= 128
	k[31] |= 64
	return k
}

// ladder is the x coordinate of k times the point u.
func ladder(k api.Key, u field) field {
	r := rung{x2: field{1}, x3: u, z3: field{1}}
	for t := 254; t >= 0; t-- {
		bit := uint64(k[t/8]>>(t%8)) & 1
		r = exchanged(bit, climbed(exchanged(bit, r), u))
	}
	return mul(r.x2, inverse(r.z2))
}

// climbed doubles the first point and adds it to the second.
func climbed(r rung, u field) rung {
	a, b := add(r.x2, r.z2), sub(r.x2, r.z2)
	c, d := add(r.x3, r.z3), sub(r.x3, r.z3)
	aa, bb := square(a), square(b)
	e := sub(aa, bb)
	da, cb := mul(d, a), mul(c, b)
	return rung{
		x2: mul(aa, bb),
		z2: mul(e, add(aa, mul(field{121665}, e))),
		x3: square(add(da, cb)),
		z3: mul(u, square(sub(da, cb))),
	}
}

// exchanged lets the two points change places if bit is 1. It goes the same
// way for both values, since bit belongs to a secret.
func exchanged(bit uint64, r rung) rung {
	mask := -bit
	for i := range r.x2 {
		x := mask & (r.x2[i] ^ r.x3[i])
		z := mask & (r.z2[i] ^ r.z3[i])
		r.x2[i] ^= x
		r.x3[i] ^= x
		r.z2[i] ^= z
		r.z3[i] ^= z
	}
	return r
}
