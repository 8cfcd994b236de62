package prim_test

import (
	"bytes"
	"crypto/aes"
	"crypto/cipher"
	"testing"

	"ratchet/api"
	"ratchet/prim"
)

func wantedBlock(t *testing.T, key api.Key, block api.Block) api.Block {
	t.Helper()
	c, err := aes.NewCipher(key[:])
	if err != nil {
		t.Fatal(err)
	}
	var out api.Block
	c.Encrypt(out[:], block[:])
	return out
}

func wantedCtr(t *testing.T, key api.Key, iv api.Block, data []byte) []byte {
	t.Helper()
	c, err := aes.NewCipher(key[:])
	if err != nil {
		t.Fatal(err)
	}
	out := make([]byte, len(data))
	cipher.NewCTR(c, iv[:]).XORKeyStream(out, data)
	return out
}

func checkBlock(t *testing.T, key api.Key, block api.Block) {
	t.Helper()
	if got, want := prim.AesBlock(key, block), wantedBlock(t, key, block); got != want {
		t.Errorf("AesBlock(%x, %x) = %x, want %x", key, block, got, want)
	}
}

// P10: the values of FIPS 197 and SP 800-38A.
func TestAesVectors(t *testing.T) {
	for _, v := range [][3]string{
		{"000102030405060708090a0b0c0d0e0f101112131415161718191a1b1c1d1e1f", "00112233445566778899aabbccddeeff", "8ea2b7ca516745bfeafc49904b496089"},
		{"603deb1015ca71be2b73aef0857d77811f352c073b6108d72d9810a30914dff4", "6bc1bee22e409f96e93d7e117393172a", "f3eed1bdb5d2a03c064b5a7e3db181f8"},
		{"603deb1015ca71be2b73aef0857d77811f352c073b6108d72d9810a30914dff4", "ae2d8a571e03ac9c9eb76fac45af8e51", "591ccb10d410ed26dc5ba74a31362870"},
	} {
		if got := prim.AesBlock(hexKey(t, v[0]), api.Block(unhex(t, v[1]))); got != api.Block(unhex(t, v[2])) {
			t.Errorf("AesBlock(%s, %s) = %x, want %s", v[0], v[1], got, v[2])
		}
	}
}

// 300 keys of noise send every byte through the S-box, in the rounds and in the schedule.
func TestAesAsTheLibrary(t *testing.T) {
	for seed := range uint64(300) {
		checkBlock(t, noiseKey(seed), noiseBlock(seed+1000))
	}
	for bit := range 256 {
		var key api.Key
		key[bit/8] = 1 << (bit % 8)
		checkBlock(t, key, api.Block{})
	}
	for bit := range 128 {
		var block api.Block
		block[bit/8] = 1 << (bit % 8)
		checkBlock(t, api.Key{}, block)
	}
	for b := range 256 {
		checkBlock(t, api.Key(bytes.Repeat([]byte{byte(b)}, 32)), api.Block(bytes.Repeat([]byte{byte(b)}, 16)))
	}
}

func TestCtrVector(t *testing.T) {
	key := hexKey(t, "603deb1015ca71be2b73aef0857d77811f352c073b6108d72d9810a30914dff4")
	iv := api.Block(unhex(t, "f0f1f2f3f4f5f6f7f8f9fafbfcfdfeff"))
	plain := unhex(t, "6bc1bee22e409f96e93d7e117393172a ae2d8a571e03ac9c9eb76fac45af8e51 30c81c46a35ce411e5fbc1191a0a52ef f69f2445df4f9b17ad2b417be66c3710")
	sealed := unhex(t, "601ec313775789a5b7a7f504bbf3d228 f443e3ca4d62b59aca84e990cacaf5c5 2b0930daa23de94ce87017ba2d84988d dfc9c58db67aada613c2dd08457941a6")
	sameBytes(t, "there", prim.CtrXor(key, iv, plain), sealed)
	sameBytes(t, "back", prim.CtrXor(key, iv, sealed), plain)
}

func TestCtrLengths(t *testing.T) {
	key, iv, data := noiseKey(31), noiseBlock(32), noise(33, 100)
	for n := range len(data) + 1 {
		got := prim.CtrXor(key, iv, data[:n])
		sameBytes(t, "CtrXor", got, wantedCtr(t, key, iv, data[:n]))
		sameBytes(t, "CtrXor twice", prim.CtrXor(key, iv, got), data[:n])
	}
}

// plus1 is the next counter, worked out bit by bit.
func plus1(b api.Block) api.Block {
	for bit := range 128 {
		at := 15 - bit/8
		b[at] ^= 1 << (bit % 8)
		if b[at]&(1<<(bit%8)) != 0 {
			break
		}
	}
	return b
}

// The carry runs through any number of bytes, and through all 16 at the wrap.
func TestCtrCounter(t *testing.T) {
	key := noiseKey(34)
	for full := range 17 {
		iv := noiseBlock(35)
		for i := range full {
			iv[15-i] = 0xff
		}
		stream := prim.CtrXor(key, iv, make([]byte, 64))
		if len(stream) != 64 {
			t.Fatalf("%d bytes of keystream", len(stream))
		}
		counter := iv
		for i := 0; i < 64; i += 16 {
			if want := prim.AesBlock(key, counter); api.Block(stream[i:i+16]) != want {
				t.Errorf("block %d from %x: %x, want %x", i/16, iv, stream[i:i+16], want)
			}
			counter = plus1(counter)
		}
	}
}

// More than 65536 blocks' worth of counters, begun close ahead of the wrap.
func TestCtrMaxInput(t *testing.T) {
	key, big := noiseKey(36), noise(37, api.MaxInput+1)
	iv := api.Block(bytes.Repeat([]byte{0xff}, 16))
	iv[15] = 0xf0
	sameBytes(t, "MaxInput", prim.CtrXor(key, iv, big[1:]), wantedCtr(t, key, iv, big[1:]))
	if got := prim.CtrXor(key, iv, big); len(got) != 0 {
		t.Errorf("past MaxInput: %d bytes", len(got))
	}
}

func TestCtrOfNothing(t *testing.T) {
	if len(prim.CtrXor(api.Key{1}, api.Block{2}, nil)) != 0 || len(prim.CtrXor(api.Key{1}, api.Block{2}, []byte{})) != 0 {
		t.Error("no data give data")
	}
}
