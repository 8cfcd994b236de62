package journal_test

import (
	"bytes"
	"encoding/hex"
	"math"
	"slices"
	"testing"

	"ratchet/api"
	"ratchet/journal"
)

// P15: each field at its place, by bytes that are written down here. The
// digest of "4a", the number 1, the length 3 and "abc" comes from another
// program.
func TestRecordFields(t *testing.T) {
	image := journal.Format(8, []byte("abc"))
	digest, _ := hex.DecodeString("624a31ab98fbef626dbc075ba1e647c3271e0698a286836cf7529f738bdecd53")
	want := slices.Concat([]byte{0x4a, 0, 0, 0, 0, 0, 0, 0, 1, 0, 0, 0, 3}, digest, make([]byte, 18), []byte{0xc7, 'a', 'b', 'c'})
	sameBytes(t, "Format", image, append(want, make([]byte, 1024-len(want))...))
}

func TestFormat(t *testing.T) {
	for _, region := range []int{8, 9, 100, 4095, 4096} {
		most := 64 * (region - 1)
		for _, n := range []int{0, 1, 63, 64, 65, 255, 256, 257, most - 64, most - 63, most - 1, most} {
			if n > most {
				continue
			}
			p := guarded(noise(uint64(n), n), 0xa5)
			given := slices.Clone(whole(p))
			image := journal.Format(region, p)
			sameBytes(t, "the payload behind Format", whole(p), given)
			sameBytes(t, "Format", image, laid(region, row(1, p), nil))
			checkMount(t, "fresh", image, api.Log{Seq: 1, Next: 1 + (n+63)/64, Payload: p})
			spoil(image)
			sameBytes(t, "the payload behind a write into the image", whole(p), given)
		}
		for _, n := range []int{most + 1, most + 64, most + 65, 2 * most, api.MaxInput + 1} {
			if image := journal.Format(region, noise(2, n)); len(image) != 0 {
				t.Errorf("region %d, a payload of %d bytes: %d bytes", region, n, len(image))
			}
		}
	}
}

func TestFormatOfNoRegion(t *testing.T) {
	for _, region := range []int{7, 4097, 1, 0, -1, -8, 8192, math.MaxInt, math.MinInt, math.MaxInt / 2, 1 << 32, 1<<32 + 8} {
		for _, p := range [][]byte{nil, noise(3, 100)} {
			if image := journal.Format(region, p); len(image) != 0 {
				t.Errorf("region %d: %d bytes", region, len(image))
			}
		}
	}
}

func TestFormatOfNothing(t *testing.T) {
	if !bytes.Equal(journal.Format(8, nil), journal.Format(8, []byte{})) {
		t.Error("nil and the empty list differ")
	}
	checkMount(t, "no bytes", journal.Format(8, nil), api.Log{Seq: 1, Next: 1})
}
