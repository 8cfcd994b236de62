package journal_test

import (
	"bytes"
	"crypto/sha256"
	"encoding/binary"
	"slices"

	"ratchet/api"
)

// The model is chapter 6 once more, on bytes and the library's SHA-256.

// modelRecord are the bytes of a record in whole sectors.
func modelRecord(seq uint64, payload []byte) []byte {
	b := binary.BigEndian.AppendUint64([]byte{0x4a}, seq)
	b = binary.BigEndian.AppendUint32(b, uint32(len(payload)))
	digest := sha256.Sum256(slices.Concat(b, payload))
	b = slices.Concat(b, digest[:], make([]byte, 18), []byte{0xc7}, payload)
	return append(b, make([]byte, -len(b)&63)...)
}

// A modelLog tells its places in bytes of the image.
type modelLog struct {
	start, end int
	seq        uint64
	payload    []byte
}

// modelRead reads the record that the rest of a region begins with.
func modelRead(rest []byte) (modelLog, bool) {
	if len(rest) == 0 || rest[0] != 0x4a || rest[63] != 0xc7 || !isZero(rest[45:63]) {
		return modelLog{}, false
	}
	seq, length := binary.BigEndian.Uint64(rest[1:]), int(binary.BigEndian.Uint32(rest[9:]))
	end := 64 * (1 + (length+63)/64)
	if seq < 1 || end > len(rest) || !isZero(rest[64+length:end]) {
		return modelLog{}, false
	}
	payload := rest[64 : 64+length]
	digest := sha256.Sum256(slices.Concat(rest[:13], payload))
	return modelLog{0, end, seq, payload}, bytes.Equal(digest[:], rest[13:45])
}

func isZero(b []byte) bool { return bytes.Count(b, []byte{0}) == len(b) }

func modelFollow(image []byte, start int) (modelLog, bool) {
	region := image[:start+len(image)/2]
	first, ok := modelRead(region[start:])
	first.start, first.end = start, start+first.end
	for last := first; ok; {
		next, follows := modelRead(region[last.end:])
		if !follows || next.seq != last.seq+1 {
			return last, true
		}
		next.start, next.end = start, last.end+next.end
		last = next
	}
	return modelLog{}, false
}

// modelFind is the log of an image, if it is one and holds one.
func modelFind(image []byte) (modelLog, bool) {
	if len(image)%128 != 0 || len(image) < 128*8 || len(image) > 128*4096 {
		return modelLog{}, false
	}
	zero, inZero := modelFollow(image, 0)
	one, inOne := modelFollow(image, len(image)/2)
	if inZero && inOne {
		inZero = binary.BigEndian.Uint64(image[1:]) >= binary.BigEndian.Uint64(image[len(image)/2+1:])
	}
	if inZero {
		return zero, true
	}
	return one, inOne
}

func modelMount(image []byte) api.Log {
	log, ok := modelFind(image)
	if !ok {
		return api.Log{Code: api.Bad}
	}
	if !isZero(image[:log.start]) || !isZero(image[log.end:]) {
		return api.Log{Code: api.Dirty}
	}
	return api.Log{Seq: log.seq, Live: min(1, log.start), Next: (log.end - log.start) / 64, Payload: log.payload}
}

// An act is one write; a row of acts has a flush behind it.
type act struct {
	at   int // in bytes
	data []byte
}

func actsOf(at int, b []byte) []act {
	var acts []act
	for sector := range slices.Chunk(b, 64) {
		acts = append(acts, act{at, sector})
		at += 64
	}
	return acts
}

func recordRows(at int, record []byte) [][]act {
	return [][]act{actsOf(at+64, record[64:]), actsOf(at, record[:64])}
}

func moveRows(image []byte, log modelLog, record []byte) [][]act {
	other := len(image)/2 - log.start
	return append(recordRows(other, record), actsOf(log.start, make([]byte, log.end-log.start)))
}

func modelAppend(image, payload []byte) (int, [][]act) {
	code := modelMount(image).Code
	log, _ := modelFind(image)
	record := modelRecord(log.seq+1, payload)
	switch {
	case code != api.OK:
		return code, nil
	case log.seq == 1<<64-1:
		return api.Counter, nil
	case len(record) > len(image)/2:
		return api.DiskFull, nil
	case log.end+len(record) <= log.start+len(image)/2:
		return api.OK, recordRows(log.end, record)
	}
	return api.OK, moveRows(image, log, record)
}

func modelCompact(image, _ []byte) (int, [][]act) {
	code := modelMount(image).Code
	log, _ := modelFind(image)
	switch {
	case code != api.OK:
		return code, nil
	case log.seq == 1<<64-1:
		return api.Counter, nil
	}
	return api.OK, moveRows(image, log, modelRecord(log.seq+1, log.payload))
}

func modelRecover(image, _ []byte) (int, [][]act) {
	log, ok := modelFind(image)
	if !ok {
		return api.Bad, nil
	}
	var acts []act
	for at, b := range slices.Collect(slices.Chunk(image, 64)) {
		if (64*at < log.start || 64*at >= log.end) && !isZero(b) {
			acts = append(acts, act{64 * at, make([]byte, 64)})
		}
	}
	return api.OK, [][]act{acts}
}

// modelWrote carries the rows out until the power fails.
func modelWrote(image []byte, code int, rows [][]act, crash api.Crash) api.Wrote {
	disk, done := slices.Clone(image), 0
	for _, row := range rows {
		if struck := crash.At - done - 1; struck >= 0 && struck < len(row) {
			for j, a := range row[:struck] {
				if j < len(crash.Keep) && crash.Keep[j] {
					copy(disk[a.at:], a.data)
				}
			}
			torn := row[struck]
			copy(disk[torn.at:], torn.data[:min(max(crash.Cut, 0), 64)])
			return api.Wrote{Code: api.PowerCut, Image: disk}
		}
		for _, a := range row {
			copy(disk[a.at:], a.data)
		}
		done += len(row)
	}
	return api.Wrote{Code: code, Image: disk}
}
