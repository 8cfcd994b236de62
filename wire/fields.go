package wire

import "ratchet/api"

const wordSize = 4

func appendU32(b []byte, x uint32) []byte {
	return append(b, byte(x>>24), byte(x>>16), byte(x>>8), byte(x))
}

// A reader takes fields off the front of a list. Its user has measured the
// list, so that no field is missing.
type reader struct{ rest []byte }

func (r *reader) take(n int) []byte {
	field := r.rest[:n]
	r.rest = r.rest[n:]
	return field
}

func (r *reader) u32() uint32 {
	f := r.take(wordSize)
	return uint32(f[0])<<24 | uint32(f[1])<<16 | uint32(f[2])<<8 | uint32(f[3])
}

func (r *reader) key() api.Key { return api.Key(r.take(len(api.Key{}))) }

// fresh is a copy of the next n bytes: what is read shares no memory with the
// list.
func (r *reader) fresh(n int) []byte { return append([]byte(nil), r.take(n)...) }
