package prim

import "ratchet/api"

const (
	blockSize  = 16
	lastRound  = 14
	keyWords   = 8
	roundWords = 4 * (lastRound + 1)
)

// A cipher is AES-256 under one key: the S-box and the round keys.
type cipher struct {
	sbox [256]byte
	keys [lastRound + 1]api.Block
}

func cipherOf(key api.Key) cipher {
	c := cipher{sbox: computedSbox()}
	c.schedule(key)
	return c
}

// computedSbox finds each inverse among the powers of 3, which reach every
// byte but 0: the inverse of 3^i is 3^(255-i).
func computedSbox() [256]byte {
	var powers [255]byte
	x := byte(1)
	for i := range powers {
		powers[i] = x
		x ^= double(x)
	}
	var box [256]byte
	box[0] = spread(0)
	for i, x := range powers {
		box[x] = spread(powers[(255-i)%255])
	}
	return box
}

// double multiplies by x modulo x^8 + x^4 + x^3 + x + 1.
func double(b byte) byte { return b<<1 ^ b>>7*0x1b }

// spread is the S-box's step behind the inverse.
func spread(y byte) byte {
	return y ^ rotl(y, 1) ^ rotl(y, 2) ^ rotl(y, 3) ^ rotl(y, 4) ^ 0x63
}

func rotl(b byte, n int) byte { return b<<n | b>>(8-n) }

// schedule fills the round keys.
func (c *cipher) schedule(key api.Key) {
	var words [roundWords][4]byte
	for i, b := range key {
		words[i/4][i%4] = b
	}
	power := byte(1)
	for i := keyWords; i < roundWords; i++ {
		t := words[i-1]
		if i%keyWords == 0 {
			t = c.substituted([4]byte{t[1], t[2], t[3], t[0]})
			t[0] ^= power
			power = double(power)
		} else if i%keyWords == 4 {
			t = c.substituted(t)
		}
		for j := range t {
			words[i][j] = words[i-keyWords][j] ^ t[j]
		}
	}
	for i, word := range words {
		copy(c.keys[i/4][i%4*4:], word[:])
	}
}

func (c *cipher) substituted(word [4]byte) [4]byte {
	for i, b := range word {
		word[i] = c.sbox[b]
	}
	return word
}

// encrypt is the forward cipher.
func (c *cipher) encrypt(block api.Block) api.Block {
	state := joined(block, c.keys[0])
	for r := 1; r < lastRound; r++ {
		state = joined(mixed(c.shifted(state)), c.keys[r])
	}
	return joined(c.shifted(state), c.keys[lastRound])
}

// shifted sends each byte through the S-box and turns row r left by r
// columns; byte i stands in row i%4, and 4 bytes lie between two columns.
func (c *cipher) shifted(state api.Block) api.Block {
	var out api.Block
	for i := range out {
		out[i] = c.sbox[state[(i+i%4*4)%blockSize]]
	}
	return out
}

// mixed does the columns' step: 2a + 3b + c + d is a + 2(a+b) + (a+b+c+d).
func mixed(state api.Block) api.Block {
	var out api.Block
	for i := 0; i < blockSize; i += 4 {
		a, b, c, d := state[i], state[i+1], state[i+2], state[i+3]
		all := a ^ b ^ c ^ d
		out[i] = a ^ double(a^b) ^ all
		out[i+1] = b ^ double(b^c) ^ all
		out[i+2] = c ^ double(c^d) ^ all
		out[i+3] = d ^ double(d^a) ^ all
	}
	return out
}

func joined(a, b api.Block) api.Block {
	for i := range a {
		a[i] ^= b[i]
	}
	return a
}

// xorKeystream is counter mode over data of any length.
func xorKeystream(key api.Key, iv api.Block, data []byte) []byte {
	c := cipherOf(key)
	out := make([]byte, len(data))
	var stream api.Block
	for i := range data {
		if i%blockSize == 0 {
			stream = c.encrypt(iv)
			iv = following(iv)
		}
		out[i] = data[i] ^ stream[i%blockSize]
	}
	return out
}

// following counts one up, big-endian; past the greatest number comes 0.
func following(counter api.Block) api.Block {
	for i := blockSize - 1; i >= 0; i-- {
		counter[i]++
		if counter[i] != 0 {
			break
		}
	}
	return counter
}
