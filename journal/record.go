package journal

import (
	"slices"

	"ratchet/api"
	"ratchet/prim"
)

// Where the fields of a commit sector stand.
const (
	seqPlace    = 1
	lengthPlace = 9
	digestPlace = 13
	tailPlace   = api.SectorSize - 1
)

type record struct {
	seq     uint64
	payload []byte
}

// need is the number of sectors of a record whose payload has the length. It
// counts in 64 bits, since the length may have been read off any disk.
func need(length uint64) uint64 { return 1 + fullSectors(length) }

func (r record) sectors() int { return int(need(uint64(len(r.payload)))) }

// commit is the sector that makes the record count.
func (r record) commit() sector {
	var s sector
	s[0] = api.RecordHead
	putNumber(s[seqPlace:lengthPlace], r.seq)
	putNumber(s[lengthPlace:digestPlace], uint64(len(r.payload)))
	digest := prim.Sha256(slices.Concat(s[:digestPlace], r.payload))
	copy(s[digestPlace:], digest[:])
	s[tailPlace] = api.RecordTail
	return s
}

// body are the sectors behind the commit sector.
func (r record) body() []sector { return cutUp(r.payload) }

// recordAt reads the record at a sector of a region that ends ahead of the
// sector end. Each record has one form, so that what stands there is valid if
// the record read off it is written in just these sectors; the number and the
// length alone must be asked for themselves.
func recordAt(d disk, at, end int) (record, bool) {
	head := d.read(at)
	seq := number(head[seqPlace:lengthPlace])
	length := number(head[lengthPlace:digestPlace])
	if seq == 0 || need(length) > uint64(end-at) {
		return record{}, false
	}
	body := readSectors(d, at+1, at+int(need(length)))
	r := record{seq, joined(body)[:length]}
	return r, r.commit() == head && slices.Equal(r.body(), body)
}

// number is the number in bytes whose first one is the greatest.
func number(b []byte) uint64 {
	x := uint64(0)
	for _, digit := range b {
		x = x<<8 | uint64(digit)
	}
	return x
}

// putNumber fills b with x, the greatest byte first.
func putNumber(b []byte, x uint64) {
	for i := range b {
		b[i] = byte(x >> (8 * (len(b) - 1 - i)))
	}
}
