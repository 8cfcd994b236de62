package wire_test

import (
	"encoding/binary"
	"slices"
	"testing"

	"ratchet/api"
	"ratchet/wire"
)

func noiseFrame(seed uint64, n int) api.Frame {
	head := api.Header{Pub: noiseKey(seed), Pn: noiseU32(seed + 1), N: noiseU32(seed + 2)}
	return api.Frame{Head: head, Body: noise(seed+3, n), Tag: noiseKey(seed + 4)}
}

// P12: each field at its place, by bytes that are written down here.
func TestFrameFields(t *testing.T) {
	f := api.Frame{Head: api.Header{Pn: 0x01020304, N: 0x05060708}, Body: []byte{0xb0, 0xb1}}
	for i := range f.Tag {
		f.Head.Pub[i], f.Tag[i] = byte(i+1), byte(0xf0-i)
	}
	b := wire.EncodeFrame(f)
	if len(b) != 79 {
		t.Fatalf("%d bytes", len(b))
	}
	sameBytes(t, "mark", b[:1], []byte{0xd2})
	sameBytes(t, "Pub", b[1:33], f.Head.Pub[:])
	sameBytes(t, "numbers", b[33:45], []byte{1, 2, 3, 4, 5, 6, 7, 8, 0, 0, 0, 2})
	sameBytes(t, "body", b[45:47], []byte{0xb0, 0xb1})
	sameBytes(t, "tag", b[47:], f.Tag[:])
	checkFrame(t, f)
}

func TestFrames(t *testing.T) {
	for n := range 140 {
		checkFrame(t, noiseFrame(uint64(n), n))
	}
	for _, n := range []int{255, 256, 257, 4096, 65279, 65280, api.MaxPlain - 1, api.MaxPlain} {
		checkFrame(t, noiseFrame(uint64(n), n))
	}
	ends := []uint32{0, 1, 0xff, 0x100, 0x10000, 0x1000000, 0x7fffffff, 0x80000000, api.MaxCounter}
	for _, pn := range ends {
		for _, n := range ends {
			f := noiseFrame(7, 5)
			f.Head.Pn, f.Head.N = pn, n
			checkFrame(t, f)
		}
	}
	checkFrame(t, api.Frame{})
	checkFrame(t, api.Frame{Body: []byte{}})
}

func TestFrameBodyLimit(t *testing.T) {
	if b := wire.EncodeFrame(noiseFrame(1, api.MaxPlain)); len(b) != 65613 {
		t.Errorf("the longest frame has %d bytes", len(b))
	}
	for _, n := range []int{api.MaxPlain + 1, api.MaxPlain + 256, 2 * api.MaxPlain, api.MaxInput, api.MaxInput + 1} {
		f := noiseFrame(2, n)
		if b := wire.EncodeFrame(f); len(b) != 0 {
			t.Errorf("a body of %d bytes: %d bytes", n, len(b))
		}
		checkNoFrame(t, "too long a body", wantedFrame(f))
	}
}

func TestFrameCutOrLonger(t *testing.T) {
	for _, n := range []int{0, 1, 40} {
		b := wantedFrame(noiseFrame(3, n))
		for i := range b {
			checkNoFrame(t, "cut at its end", b[:i])
			checkNoFrame(t, "cut at its front", b[i+1:])
			checkNoFrame(t, "a byte taken out", slices.Delete(slices.Clone(b), i, i+1))
			checkNoFrame(t, "a byte put in", slices.Insert(slices.Clone(b), i+1, 0))
		}
		for _, more := range []int{1, 2, 32, 45, 77, 256, 65536} {
			checkNoFrame(t, "longer", append(slices.Clone(b), make([]byte, more)...))
		}
		checkNoFrame(t, "two frames", slices.Concat(b, b))
	}
	longest := wantedFrame(noiseFrame(4, api.MaxPlain))
	checkNoFrame(t, "the longest, a byte short", longest[:len(longest)-1])
	checkNoFrame(t, "the longest and a byte", append(longest, 0))
	checkNoFrame(t, "nil", nil)
	checkNoFrame(t, "empty", []byte{})
}

func TestFrameMark(t *testing.T) {
	b := wantedFrame(noiseFrame(5, 3))
	for mark := range 256 {
		b[0] = byte(mark)
		if mark != 0xd2 {
			checkNoFrame(t, "another mark", b)
		}
	}
}

// A length that is not the body's is refused, also where it would be right
// but for a wrap-round or for its upper bytes.
func TestFrameLength(t *testing.T) {
	for _, n := range []int{0, 1, 32, 300} {
		b := wantedFrame(noiseFrame(6, n))
		for bit := range 32 {
			wrong := slices.Clone(b)
			wrong[41+bit/8] ^= 0x80 >> (bit % 8)
			checkNoFrame(t, "a length of one wrong bit", wrong)
		}
		for _, length := range []int{n - 1, n + 1, n - 77, n + 77, n + 32, n - 32, n + 65536, -n - 1, len(b)} {
			wrong := slices.Clone(b)
			binary.BigEndian.PutUint32(wrong[41:], uint32(length))
			checkNoFrame(t, "a wrong length", wrong)
		}
	}
	short := wantedFrame(api.Frame{})[:76]
	binary.BigEndian.PutUint32(short[41:], api.MaxCounter)
	checkNoFrame(t, "76 bytes and a length of -1", short)
}

// Whatever is taken as a frame is the encoding of what is read, and what
// differs from a frame in one bit is another frame or none.
func TestFrameBits(t *testing.T) {
	f := noiseFrame(8, 9)
	b := wantedFrame(f)
	for bit := range 8 * len(b) {
		other := slices.Clone(b)
		other[bit/8] ^= 1 << (bit % 8)
		got, ok := wire.DecodeFrame(other)
		if want := bit/8 != 0 && (bit/8 < 41 || bit/8 >= 45); ok != want {
			t.Errorf("bit %d: %v", bit, ok)
		}
		if ok {
			sameBytes(t, "the encoding of what was read", wantedFrame(got), other)
		}
	}
}
