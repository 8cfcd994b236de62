package journal_test

import (
	"bytes"
	"slices"
	"testing"

	"ratchet/api"
	"ratchet/journal"
)

// noise is n bytes that hang on seed alone.
func noise(seed uint64, n int) []byte {
	b := make([]byte, n)
	x := seed*0x9e3779b97f4a7c15 + 0x1234567
	for i := range b {
		x ^= x << 13
		x ^= x >> 7
		x ^= x << 17
		b[i] = byte(x >> 32)
	}
	return b
}

// laid is an image of two regions that begin with these bytes.
func laid(region int, zero, one []byte) []byte {
	image := make([]byte, 128*region)
	copy(image, zero)
	copy(image[64*region:], one)
	return image
}

// row are records of these payloads, whose numbers grow by one from seq on.
func row(seq uint64, payloads ...[]byte) []byte {
	var b []byte
	for i, p := range payloads {
		b = append(b, modelRecord(seq+uint64(i), p)...)
	}
	return b
}

func sameBytes(t *testing.T, what string, got, want []byte) {
	t.Helper()
	if bytes.Equal(got, want) {
		return
	}
	for i := range min(len(got), len(want)) {
		if got[i] != want[i] {
			t.Errorf("%s: of %d bytes, byte %d (sector %d) is %#x, want %#x", what, len(got), i, i/64, got[i], want[i])
			return
		}
	}
	t.Errorf("%s: %d bytes, want %d", what, len(got), len(want))
}

func sameLog(a, b api.Log) bool {
	return a.Code == b.Code && a.Seq == b.Seq && a.Live == b.Live && a.Next == b.Next && bytes.Equal(a.Payload, b.Payload)
}

const guard = 70

// guarded is a list with memory of its own behind its end.
func guarded[T any](list []T, behind T) []T {
	return append(slices.Clone(list), slices.Repeat([]T{behind}, guard)...)[:len(list)]
}

func whole[T any](list []T) []T { return list[:cap(list)] }

func spoil(b []byte) {
	for i := range whole(b) {
		whole(b)[i] ^= 0xff
	}
}

// checkMount holds Mount against want, and asks that the image and the memory
// behind it are left alone, by the call and by a write into its answer.
func checkMount(t *testing.T, what string, image []byte, want api.Log) {
	t.Helper()
	image = guarded(image, 0xa5)
	given := slices.Clone(whole(image))
	first := journal.Mount(image)
	sameBytes(t, what+": the image behind Mount", whole(image), given)
	if !sameLog(first, want) {
		t.Errorf("%s: Mount: code %d, number %d, region %d, next %d, %d bytes; want code %d, number %d, region %d, next %d, %d bytes", what,
			first.Code, first.Seq, first.Live, first.Next, len(first.Payload), want.Code, want.Seq, want.Live, want.Next, len(want.Payload))
	}
	spoil(first.Payload)
	sameBytes(t, what+": the image behind a write into Mount's answer", whole(image), given)
	again := journal.Mount(image)
	spoil(image)
	if !sameLog(again, want) {
		t.Errorf("%s: Mount once more: code %d, want %d", what, again.Code, want.Code)
	}
}

// A call is one of the calls that write, and what the model says of it.
type call struct {
	name    string
	payload []byte
	do      func(image, payload []byte, crash api.Crash) api.Wrote
	model   func(image, payload []byte) (int, [][]act)
}

func appending(payload []byte) call { return call{"Append", payload, journal.Append, modelAppend} }

func compacting() call {
	do := func(image, _ []byte, crash api.Crash) api.Wrote { return journal.Compact(image, crash) }
	return call{"Compact", nil, do, modelCompact}
}

func recovering() call {
	do := func(image, _ []byte, crash api.Crash) api.Wrote { return journal.Recover(image, crash) }
	return call{"Recover", nil, do, modelRecover}
}

// writes are how many writes are waiting ahead of each write of the call, in
// their order, and which of them, from 1, is the commit sector's (0: none is).
func (c call) writes(image []byte) (waiting []int, commit int) {
	_, rows := c.model(image, c.payload)
	for i, r := range rows {
		for j := range r {
			waiting = append(waiting, j)
		}
		if i == 1 {
			commit = len(waiting)
		}
	}
	return waiting, commit
}

// run makes the call on guarded lists and holds it against the model. It asks
// that the lists and the memory behind them are left alone, by the call and by
// a write into its answer, that a spoilt answer does not come back, and that
// an image comes back as it was if the call is refused (P6, P16).
func (c call) run(t *testing.T, image []byte, crash api.Crash) api.Wrote {
	t.Helper()
	code, rows := c.model(image, c.payload)
	want := modelWrote(image, code, rows, crash)
	given, payload, plan := guarded(image, 0xa5), guarded(c.payload, 0x5a), crash
	plan.Keep = guarded(crash.Keep, true)
	left := [][]byte{slices.Clone(whole(given)), slices.Clone(whole(payload))}
	keep := slices.Clone(whole(plan.Keep))
	unchanged := func(when string) {
		t.Helper()
		if !bytes.Equal(whole(given), left[0]) || !bytes.Equal(whole(payload), left[1]) || !slices.Equal(whole(plan.Keep), keep) {
			t.Errorf("%s: an argument, or the memory behind it, is changed by %s", c.name, when)
		}
	}
	first := c.do(given, payload, plan)
	unchanged("the call")
	c.same(t, "", first, want)
	spoil(first.Image)
	unchanged("a write into the answer")
	again := c.do(given, payload, plan)
	spoil(given)
	spoil(payload)
	clear(whole(plan.Keep))
	c.same(t, " once more", again, want)
	if code := again.Code; code != api.OK && code != api.PowerCut {
		sameBytes(t, c.name+", refused", again.Image, image)
	}
	return again
}

func (c call) same(t *testing.T, when string, got, want api.Wrote) {
	t.Helper()
	if got.Code != want.Code {
		t.Errorf("%s%s: code %d, want %d", c.name, when, got.Code, want.Code)
	}
	sameBytes(t, c.name+when, got.Image, want.Image)
}

// ok makes the call without a power cut and asks that it is not refused.
func (c call) ok(t *testing.T, image []byte) []byte {
	t.Helper()
	w := c.run(t, image, api.Crash{})
	checkCode(t, c.name, w.Code, api.OK)
	return w.Image
}

func checkCode(t *testing.T, what string, got, want int) {
	t.Helper()
	if got != want {
		t.Errorf("%s: code %d, want %d", what, got, want)
	}
}

// checkBad asks that no call takes the image.
func checkBad(t *testing.T, what string, image []byte) {
	t.Helper()
	checkMount(t, what, image, api.Log{Code: api.Bad})
	for _, c := range []call{appending(nil), appending(noise(1, 100)), compacting(), recovering()} {
		for _, at := range []int{0, 1} {
			checkCode(t, what+": "+c.name, c.run(t, image, api.Crash{At: at, Cut: 64}).Code, api.Bad)
		}
	}
}

// checkDirty asks that the image is refused but for Recover, which leaves the
// image clean.
func checkDirty(t *testing.T, what string, image, clean []byte) {
	t.Helper()
	checkMount(t, what, image, api.Log{Code: api.Dirty})
	for _, c := range []call{appending(nil), appending(noise(1, 9999)), compacting()} {
		for _, at := range []int{0, 1} {
			checkCode(t, what+": "+c.name, c.run(t, image, api.Crash{At: at, Cut: 64}).Code, api.Dirty)
		}
	}
	sameBytes(t, what+": recovered", recovering().ok(t, image), clean)
}
