package prim

import (
	"math/bits"

	"ratchet/api"
)

// A field is a number modulo p = 2^255 - 19 in five limbs; limb i counts
// 2^(51*i). The 13 bits above a limb leave room for carries: every function
// here takes and answers limbs below 2^51 + 2^10, so that no sum of two limbs
// wraps, and neither does a difference that 2p was added to.
type field [5]uint64

const limbMask = 1<<51 - 1

// A wide is a sum of products of limbs, hi counting 2^64.
type wide struct{ hi, lo uint64 }

// plus adds a*b to w.
func (w wide) plus(a, b uint64) wide {
	hi, lo := bits.Mul64(a, b)
	lo, carry := bits.Add64(w.lo, lo, 0)
	hi, _ = bits.Add64(w.hi, hi, carry)
	return wide{hi, lo}
}

// above is what passes a limb.
func (w wide) above() uint64 { return w.hi<<13 | w.lo>>51 }

// carried hands what passes a limb to the next one. What passes the top limb
// comes back 19-fold at the bottom, since 2^255 is 19 modulo p.
func carried(f0, f1, f2, f3, f4 uint64) field {
	return field{
		f0&limbMask + 19*(f4>>51),
		f1&limbMask + f0>>51,
		f2&limbMask + f1>>51,
		f3&limbMask + f2>>51,
		f4&limbMask + f3>>51,
	}
}

func add(a, b field) field {
	return carried(a[0]+b[0], a[1]+b[1], a[2]+b[2], a[3]+b[3], a[4]+b[4])
}

// sub adds 2p ahead of taking b off, so that no limb falls below 0.
func sub(a, b field) field {
	const low, high = 2 * (limbMask - 18), 2 * limbMask
	return carried(a[0]+low-b[0], a[1]+high-b[1], a[2]+high-b[2], a[3]+high-b[3], a[4]+high-b[4])
}

// mul has to carry twice: r0 to r3 are below 2^109, so that the first carries
// are below 2^58. r4 has no 19-fold part and is below 2^105, so that 19 times
// its carry is below 2^59. The second carries are below 2^8, the top one
// below 2^5.
func mul(a, b field) field {
	b1, b2, b3, b4 := 19*b[1], 19*b[2], 19*b[3], 19*b[4]
	zero := wide{}
	r0 := zero.plus(a[0], b[0]).plus(a[1], b4).plus(a[2], b3).plus(a[3], b2).plus(a[4], b1)
	r1 := zero.plus(a[0], b[1]).plus(a[1], b[0]).plus(a[2], b4).plus(a[3], b3).plus(a[4], b2)
	r2 := zero.plus(a[0], b[2]).plus(a[1], b[1]).plus(a[2], b[0]).plus(a[3], b4).plus(a[4], b3)
	r3 := zero.plus(a[0], b[3]).plus(a[1], b[2]).plus(a[2], b[1]).plus(a[3], b[0]).plus(a[4], b4)
	r4 := zero.plus(a[0], b[4]).plus(a[1], b[3]).plus(a[2], b[2]).plus(a[3], b[1]).plus(a[4], b[0])
	return carried(
		r0.lo&limbMask+19*r4.above(),
		r1.lo&limbMask+r0.above(),
		r2.lo&limbMask+r1.above(),
		r3.lo&limbMask+r2.above(),
		r4.lo&limbMask+r3.above(),
	)
}

func square(a field) field { return mul(a, a) }

// inverse is a^(p-2), and so 0 for 0. The exponent 2^255 - 21 has 255 bits,
// all of them set but bit 2 and bit 4.
func inverse(a field) field {
	power := field{1}
	for t := 254; t >= 0; t-- {
		power = square(power)
		if t != 2 && t != 4 {
			power = mul(power, a)
		}
	}
	return power
}

// fieldOf reads a little-endian number and drops its top bit. A number of p
// or more is kept as it is: all arithmetic is modulo p anyway.
func fieldOf(k api.Key) field {
	var w [4]uint64
	for i, b := range k {
		w[i/8] |= uint64(b) << (i % 8 * 8)
	}
	return field{
		w[0] & limbMask,
		(w[0]>>51 | w[1]<<13) & limbMask,
		(w[1]>>38 | w[2]<<26) & limbMask,
		(w[2]>>25 | w[3]<<39) & limbMask,
		w[3] >> 12 & limbMask,
	}
}

// keyOf writes the number below p, little-endian.
func keyOf(f field) api.Key {
	f = reduced(f)
	w := [4]uint64{
		f[0] | f[1]<<51,
		f[1]>>13 | f[2]<<38,
		f[2]>>26 | f[3]<<25,
		f[3]>>39 | f[4]<<12,
	}
	var k api.Key
	for i := range k {
		k[i] = byte(w[i/8] >> (i % 8 * 8))
	}
	return k
}

// reduced takes p off once if f is p or more; f is below 2p here. f is p or
// more exactly if f + 19 reaches 2^255, and taking p off is adding 19 and
// dropping 2^255.
func reduced(f field) field {
	over := uint64(19)
	for _, limb := range f {
		over = (limb + over) >> 51
	}
	carry := 19 * over
	for i := range f {
		f[i] += carry
		carry = f[i] >> 51
		f[i] &= limbMask
	}
	return f
}
