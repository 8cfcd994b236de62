package prim_test

import (
	"bytes"
	"slices"
	"sync"
	"testing"

	"ratchet/api"
	"ratchet/prim"
)

// A watched list has memory of its own behind its end, and remembers what
// stood in it and behind it.
type watched struct{ memory, before []byte }

func watch(b []byte) watched {
	memory := append(slices.Clone(b), bytes.Repeat([]byte{0xa5}, 256)...)
	return watched{memory, slices.Clone(memory)}
}

func (w watched) list() []byte { return w.memory[:len(w.memory)-256] }

func (w watched) changed() bool { return !bytes.Equal(w.memory, w.before) }

// A memoryCase is a call that takes lists and the length of each list.
type memoryCase struct {
	name    string
	lengths []int
	call    func(lists [][]byte) []byte
}

func keyBytes(k api.Key) []byte { return k[:] }

func memoryCalls() []memoryCase {
	mk := noiseKey(61)
	sha := func(l [][]byte) []byte { return keyBytes(prim.Sha256(l[0])) }
	mac := func(l [][]byte) []byte { return keyBytes(prim.Hmac(l[0], l[1])) }
	kdf := func(n int) func([][]byte) []byte {
		return func(l [][]byte) []byte { return prim.Hkdf(l[0], l[1], l[2], n) }
	}
	ctr := func(l [][]byte) []byte { return prim.CtrXor(mk, api.Block{1}, l[0]) }
	seal := func(l [][]byte) []byte { return prim.Seal(mk, l[0], l[1]).Body }
	refuse := func(l [][]byte) []byte {
		text, _ := prim.Open(mk, l[0], api.Sealed{Body: l[1]})
		return text
	}
	return []memoryCase{
		{"Sha256", []int{0}, sha}, {"Sha256", []int{3}, sha}, {"Sha256", []int{56}, sha},
		{"Sha256", []int{64}, sha}, {"Sha256", []int{api.MaxInput + 1}, sha},
		{"Hmac", []int{0, 0}, mac}, {"Hmac", []int{20, 30}, mac}, {"Hmac", []int{64, 64}, mac},
		{"Hmac", []int{65, 3}, mac}, {"Hmac", []int{api.MaxInput + 1, 1}, mac},
		{"Hkdf", []int{0, 0, 0}, kdf(80)}, {"Hkdf", []int{32, 32, 12}, kdf(80)}, {"Hkdf", []int{65, 65, 65}, kdf(40)},
		{"Hkdf", []int{5, 5, 5}, kdf(0)}, {"Hkdf", []int{5, 5, 5}, kdf(-1)}, {"Hkdf", []int{5, 5, api.MaxInput + 1}, kdf(9)},
		{"CtrXor", []int{0}, ctr}, {"CtrXor", []int{1}, ctr}, {"CtrXor", []int{16}, ctr},
		{"CtrXor", []int{37}, ctr}, {"CtrXor", []int{api.MaxInput + 1}, ctr},
		{"Seal", []int{0, 0}, seal}, {"Seal", []int{41, 20}, seal}, {"Seal", []int{64, 64}, seal},
		{"Seal", []int{api.MaxInput + 1, 5}, seal},
		{"Open, refused", []int{41, 20}, refuse}, {"Open, refused", []int{0, 0}, refuse},
		{"Open, refused", []int{5, api.MaxInput + 1}, refuse},
	}
}

// spoil writes over all memory of a list, behind its end too.
func spoil(b []byte) {
	b = b[:cap(b)]
	for i := range b {
		b[i] ^= 0xff
	}
}

// checkMemory asks that a call leaves its lists alone, that its answer shares
// no memory with them, and that a spoilt answer does not come back.
func checkMemory(t *testing.T, name string, lists []watched, call func([][]byte) []byte) {
	t.Helper()
	var given [][]byte
	for _, w := range lists {
		given = append(given, w.list())
	}
	unchanged := func(when string) {
		t.Helper()
		for i, w := range lists {
			if w.changed() {
				t.Errorf("%s: list %d, or the memory behind it, is changed by %s", name, i, when)
			}
		}
	}
	answer := call(given)
	unchanged("the call")
	want := slices.Clone(answer)
	spoil(answer)
	unchanged("a write into the answer")
	again := call(given)
	sameBytes(t, name+" once more", again, want)
	for _, w := range lists {
		spoil(w.memory)
	}
	sameBytes(t, name+" behind a write into its lists", again, want)
}

// P16.
func TestMemory(t *testing.T) {
	for _, c := range memoryCalls() {
		var lists []watched
		for i, n := range c.lengths {
			lists = append(lists, watch(noise(uint64(70+i), n)))
		}
		checkMemory(t, c.name, lists, c.call)
	}
}

func TestMemoryOfOpen(t *testing.T) {
	mk := noiseKey(62)
	for _, n := range []int{0, 1, 16, 41} {
		ad, sealed := noise(63, 41), wantedSeal(t, mk, noise(63, 41), noise(64, n))
		open := func(lists [][]byte) []byte {
			text, ok := prim.Open(mk, lists[0], api.Sealed{Body: lists[1], Tag: sealed.Tag})
			if !ok {
				t.Error("not opened")
			}
			return text
		}
		checkMemory(t, "Open", []watched{watch(ad), watch(sealed.Body)}, open)
	}
}

// One list may be given twice, and nil is the empty list.
func TestSameListTwice(t *testing.T) {
	b := noise(65, 50)
	if prim.Hmac(b, b) != prim.Hmac(b, slices.Clone(b)) {
		t.Error("Hmac of one list twice")
	}
	sameBytes(t, "Hkdf", prim.Hkdf(b, b, b, 90), prim.Hkdf(b, slices.Clone(b), slices.Clone(b), 90))
	checkSeal(t, api.Key(b[:32]), b, b)
	if prim.Sha256(nil) != prim.Sha256([]byte{}) || prim.Hmac(nil, nil) != prim.Hmac([]byte{}, []byte{}) {
		t.Error("nil and the empty list differ")
	}
	sameBytes(t, "Hkdf of nothing", prim.Hkdf(nil, nil, nil, 40), prim.Hkdf([]byte{}, []byte{}, []byte{}, 40))
}

// all is one answer of every call.
func all(seed uint64) []byte {
	k, list := noiseKey(seed), noise(seed, 100)
	sealed := prim.Seal(k, list, list)
	text, _ := prim.Open(k, list, sealed)
	block := prim.AesBlock(k, api.Block(list[:16]))
	return slices.Concat(keyBytes(prim.X25519(k, k)), keyBytes(prim.Sha256(list)), keyBytes(prim.Hmac(list, list)),
		prim.Hkdf(list, list, list, 100), block[:], prim.CtrXor(k, block, list), sealed.Body, sealed.Tag[:], text)
}

// Nothing is kept from call to call: what was asked before, or is asked at
// the same time, does not show.
func TestNothingIsKept(t *testing.T) {
	var want [8][]byte
	for i := range want {
		want[i] = all(uint64(i))
	}
	var got [8][]byte
	var group sync.WaitGroup
	for i := range got {
		group.Go(func() { got[i] = all(uint64(i)) })
	}
	group.Wait()
	for i := range got {
		sameBytes(t, "at the same time", got[i], want[i])
		sameBytes(t, "once more", all(uint64(i)), want[i])
	}
}
