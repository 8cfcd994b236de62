package journal_test

import (
	"crypto/sha256"
	"encoding/binary"
	"math"
	"slices"
	"strconv"
	"testing"

	"ratchet/api"
)

// resealed is the record with the digest of its head and of length bytes behind
// its commit sector, whatever else is wrong with it.
func resealed(record []byte, length int) []byte {
	digest := sha256.Sum256(slices.Concat(record[:13], record[64:64+length]))
	return slices.Concat(record[:13], digest[:], record[45:])
}

type damage struct {
	name   string
	record []byte
}

// flips are the record with one bit of the bytes from..to-1 turned.
func flips(name string, record []byte, from, to int) []damage {
	var list []damage
	for bit := 8 * from; bit < 8*to; bit++ {
		b := slices.Clone(record)
		b[bit/8] ^= 1 << (bit % 8)
		list = append(list, damage{name + ", bit " + strconv.Itoa(bit), b})
	}
	return list
}

// damages are the record with each rule of 6.2 broken alone: where a fault
// would show in the digest too, the digest is made to fit.
func damages(seq uint64, payload []byte) []damage {
	good, n := modelRecord(seq, payload), len(payload)
	list := slices.Concat(flips("head", good, 0, 1), flips("zeros", good, 45, 63),
		flips("tail", good, 63, 64), flips("behind the payload", good, 64+n, len(good)))
	for i, d := range list {
		list[i].record = resealed(d.record, n)
	}
	list = append(list, damage{"the number 0", modelRecord(0, payload)})
	return slices.Concat(list, flips("number", good, 1, 9), flips("length", good, 9, 13),
		flips("digest", good, 13, 45), flips("payload", good, 64, 64+n))
}

// P15, wrong inputs: a record with one fault is none, not as the first of
// either region, not behind another one, and not in the other region.
func TestDamagedRecords(t *testing.T) {
	first := noise(1, 20)
	clean := laid(8, row(4, first), nil)
	for _, n := range []int{0, 63, 70} {
		for _, d := range damages(5, noise(2, n)) {
			checkBad(t, d.name, laid(8, d.record, nil))
			checkBad(t, d.name, laid(8, nil, d.record))
			checkDirty(t, d.name, laid(8, slices.Concat(row(4, first), d.record), nil), clean)
			checkDirty(t, d.name, laid(8, row(4, first), d.record), clean)
		}
	}
}

// longRecord is a commit sector, and bytes behind it up to the disk's end, that
// are right for a payload of length bytes as far as these go.
func longRecord(seq uint64, length uint32, rest int) []byte {
	b := slices.Concat(modelRecord(seq, nil), noise(3, rest))
	binary.BigEndian.PutUint32(b[9:], length)
	return resealed(b, min(int(length), rest))
}

// A record must fit into the rest of its region, also where the bytes behind
// the region's end would make it whole.
func TestRecordsThatLeaveTheirRegion(t *testing.T) {
	first := noise(4, 100) // three sectors
	clean := laid(8, row(1, first), nil)
	for _, length := range []uint32{449, 512, 960, 961, 1 << 16, 1 << 31, 1<<31 + 1, math.MaxUint32 - 63, math.MaxUint32} {
		image := laid(8, longRecord(2, length, 15*64), nil)
		checkBad(t, "at the first sector", image)
		image = laid(8, slices.Concat(row(1, first), longRecord(2, length, 12*64)), nil)
		checkDirty(t, "behind a record", image, clean)
		image = laid(8, nil, longRecord(2, length, 7*64))
		checkBad(t, "at the first sector of region 1", image)
	}
	fits := laid(8, slices.Concat(row(1, first), modelRecord(2, noise(5, 256))), nil)
	checkMount(t, "just fits", fits, api.Log{Seq: 2, Next: 8, Payload: noise(5, 256)})
	passes := laid(8, slices.Concat(row(1, first), modelRecord(2, noise(5, 257))), nil)
	checkDirty(t, "one byte more", passes, clean)
	row := row(1, first, noise(6, 230))
	for _, length := range []uint32{1, 64, 65, math.MaxUint32} {
		last := slices.Concat(row[:7*64], longRecord(2, length, 0))
		checkDirty(t, "at the disk's last sector", laid(8, nil, last), laid(8, nil, row[:3*64]))
	}
}

// The log goes on only where the number is greater by exactly 1.
func TestNumbersThatDoNotFollow(t *testing.T) {
	a, b := noise(7, 64), noise(8, 65)
	for _, seq := range []uint64{1, 2, 5, 255, 1<<32 - 1, 1<<32 + 4, 1<<63 - 1, math.MaxUint64 - 1, math.MaxUint64} {
		for _, by := range []uint64{0, 2, 3, 255, 256, 1 << 32, 1<<32 + 1, 1 << 63, 1<<63 + 1, math.MaxUint64} {
			image := laid(9, slices.Concat(row(seq, a), row(seq+by, b)), nil)
			checkDirty(t, "a step of "+strconv.FormatUint(by, 10), image, laid(9, row(seq, a), nil))
		}
		image := laid(9, row(seq, a, b), nil)
		if seq == math.MaxUint64 {
			checkDirty(t, "the number 0 behind the greatest", image, laid(9, row(seq, a), nil))
		} else {
			checkMount(t, "a step of 1", image, api.Log{Seq: seq + 1, Next: 5, Payload: b})
		}
	}
}

func TestWhereTheLogEnds(t *testing.T) {
	a, b, c := noise(9, 10), noise(10, 130), noise(11, 0)
	for region := range 2 {
		at := func(b []byte) []byte {
			if region == 1 {
				return laid(8, nil, b)
			}
			return laid(8, b, nil)
		}
		checkMount(t, "three", at(row(7, a, b, c)), api.Log{Seq: 9, Live: region, Next: 7})
		checkMount(t, "up to the end", at(row(7, a, b, c, c)), api.Log{Seq: 10, Live: region, Next: 8})
		checkMount(t, "eight", at(row(7, c, c, c, c, c, c, c, c)), api.Log{Seq: 14, Live: region, Next: 8})
		gap := slices.Concat(row(7, a), make([]byte, 64), row(8, b))
		checkDirty(t, "a gap", at(gap), at(row(7, a)))
		late := slices.Concat(make([]byte, 64), row(7, a))
		checkBad(t, "not at the region's first sector", at(late))
	}
	// Records that would go on in the other region are none of this log.
	full := slices.Concat(row(1, noise(12, 448)), row(2, a))
	checkDirty(t, "over the region's end", laid(8, full, nil), laid(8, nil, row(2, a)))
}

// The live region is told by the regions' first records.
func TestTwoRegionsThatBegin(t *testing.T) {
	a, b, c := noise(13, 64), noise(14, 65), noise(15, 1)
	cases := []struct {
		zero, one []byte
		live      int
	}{
		{row(3, a), row(3, b), 0},
		{row(3, a), row(4, b), 1},
		{row(4, a), row(3, b), 0},
		{row(3, a, b, c), row(4, b), 1},
		{row(4, a), row(3, a, b, c), 0},
		{row(3, a), row(3, a, b, c), 0},
		{row(1, a), row(math.MaxUint64, b), 1},
		{row(1<<63, a), row(1<<63-1, b), 0},
		{row(1<<32, a), row(1<<32-1, b), 0},
		{row(255, a), row(256, b), 1},
		{slices.Concat(row(3, a), row(9, b)), row(4, c), 1},
	}
	for _, c := range cases {
		clean := laid(8, c.zero, nil)
		if c.live == 1 {
			clean = laid(8, nil, c.one)
		}
		checkDirty(t, "two regions", laid(8, c.zero, c.one), clean)
	}
}

// A byte that is not zero outside of the log, wherever it stands.
func TestLeftoverBytes(t *testing.T) {
	for _, clean := range [][]byte{
		laid(8, row(3, noise(16, 64), nil), nil), laid(9, nil, row(3, noise(17, 100))), laid(8, row(9, noise(18, 448)), nil),
	} {
		log, _ := modelFind(clean)
		for i := range clean {
			if i < log.start || i >= log.end {
				image := slices.Clone(clean)
				image[i] = byte(1 << (i % 8))
				checkDirty(t, "byte "+strconv.Itoa(i), image, clean)
			}
		}
	}
}

func TestNoImages(t *testing.T) {
	for _, record := range [][]byte{row(1, nil), row(5, noise(19, 90), noise(20, 30))} {
		for _, zero := range []bool{true, false} {
			good := laid(8, nil, record)
			if zero {
				good = laid(8, record, nil)
			}
			checkMount(t, "an image", good, modelMount(good))
			for n := range good {
				checkBad(t, "bytes cut off", good[:n])
				checkBad(t, "bytes cut off the front", good[n+1:])
			}
			for _, n := range []int{1, 2, 63, 64, 65, 127, 129, 192, 8128, 8191} {
				checkBad(t, "bytes added", slices.Concat(good, make([]byte, n)))
			}
		}
		for _, region := range []int{5, 6, 7, 4097, 4098, 8192} {
			checkBad(t, "region "+strconv.Itoa(region), laid(region, record, nil))
			checkBad(t, "region "+strconv.Itoa(region), laid(region, nil, record))
		}
		for _, region := range []int{8, 9, 4095, 4096} {
			checkBad(t, "an empty disk", laid(region, nil, nil))
			checkMount(t, "a region", laid(region, record, nil), modelMount(laid(region, record, nil)))
		}
	}
	checkBad(t, "nil", nil)
	checkBad(t, "the empty list", []byte{})
}

// With 128 bytes added the image is another one, of a greater region: its
// second region does not begin where it did.
func TestImageOfAnotherRegion(t *testing.T) {
	a := noise(21, 90)
	image := slices.Concat(laid(8, row(1, a), nil), make([]byte, 128))
	checkMount(t, "region 0", image, api.Log{Seq: 1, Next: 3, Payload: a})
	checkBad(t, "region 1", slices.Concat(laid(8, nil, row(1, a)), make([]byte, 128)))
}
