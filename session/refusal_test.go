package session_test

import (
	"encoding/binary"
	"math"
	"slices"
	"strconv"
	"testing"

	"ratchet/api"
	"ratchet/journal"
	"ratchet/machine"
	"ratchet/prim"
	"ratchet/wire"
)

// turned is the machine's answer, which must be OK.
func turned(t *testing.T, turn api.Turn) api.Turn {
	t.Helper()
	checkCode(t, "the machine", turn.Code, api.OK)
	return turn
}

// sentBy is the party's state behind n messages, and their frames. All of them
// are of one chain.
func sentBy(t *testing.T, s api.State, seed uint64, n int) (api.State, [][]byte) {
	t.Helper()
	var frames [][]byte
	for i := range n {
		turn := turned(t, machine.Encrypt(s, []byte("message "+strconv.Itoa(i)), noiseKey(seed)))
		s, frames = turn.State, append(frames, turn.Out)
	}
	return s, frames
}

// begun are both parties' first states, with these limits.
func begun(skip, room int) (api.State, api.State) {
	states := firstStates(setupOf(skip, room, 8))
	return states[0], states[1]
}

// noJournals are lists of bytes that Mount refuses with Bad.
func noJournals() [][]byte {
	good := record(1, wire.EncodeState(firstStates(setupOf(3, 5, 8))[0]))
	list := [][]byte{
		nil, {}, {0}, make([]byte, 1023), make([]byte, 1024), make([]byte, 1025), noise(1, 1024), noise(2, 128*12),
		good, laid(7, good, nil), laid(4097, good, nil), laid(8, good, nil)[:1023], append(laid(8, good, nil), 0),
		laid(8, record(0, good), nil), laid(8, slices.Concat(make([]byte, 64), good), nil), make([]byte, 128*4097),
	}
	for _, at := range []int{0, 1, 9, 13, 45, 63, 64, 64 + 226} {
		image := laid(8, good, nil)
		image[at] ^= 1
		list = append(list, image)
	}
	return list
}

func TestNoJournals(t *testing.T) {
	_, frames := sentBy(t, firstStates(setupOf(3, 5, 8))[0], 1, 1)
	for _, image := range noJournals() {
		checkPeek(t, "no journal", image, api.Seen{Code: api.Bad})
		for _, c := range []call{sending(nil, api.Key{}), sending(make([]byte, 65537), api.Key{}), delivering(frames[0]), delivering(nil), compacting(), recovering()} {
			c.refused(t, "no journal", image, api.Bad)
		}
	}
}

// noStates are payloads that are no state record.
func noStates(t *testing.T) [][]byte {
	t.Helper()
	alice, bob := begun(3, 5)
	good := wire.EncodeState(alice)
	list := [][]byte{nil, []byte("no state"), good[:225], append(slices.Clone(good), 0), make([]byte, 226), noise(3, 226), noise(4, 298)}
	_, frames := sentBy(t, alice, 1, 1)
	list = append(list, frames[0], record(1, good))
	// Byte 1: neither key is there, or one that is there is not told; an unknown bit.
	// Then Priv without HasOwn, Send without HasSend, chains that have not begun,
	// limits that are passed, an entry that is not there.
	for _, at := range []int{0, 1, 34, 130, 162, 197, 202, 206, 210, 214, 218, 225} {
		b := slices.Clone(good)
		b[at] ^= 2
		list = append(list, b)
	}
	other := wire.EncodeState(bob)
	other[1] |= 8
	return append(list, other)
}

func TestPayloadsThatAreNoState(t *testing.T) {
	_, frames := sentBy(t, firstStates(setupOf(3, 5, 8))[0], 1, 1)
	for i, payload := range noStates(t) {
		what := "payload " + strconv.Itoa(i)
		image := laid(10, record(7, payload), nil)
		checkPeek(t, what, image, api.Seen{Code: api.Bad})
		for _, c := range []call{sending(nil, api.Key{}), sending(make([]byte, 65537), api.Key{}), delivering(frames[0]), delivering(nil)} {
			c.refused(t, what, image, api.Bad)
		}
		// The journal does not look into its payloads.
		sameBytes(t, what, recovering().ok(t, image).Image, image)
		sameBytes(t, what, compacting().ok(t, image).Image, laid(10, nil, record(8, payload)))
	}
	// The last record counts, not an earlier one.
	good := wire.EncodeState(firstStates(setupOf(3, 5, 8))[1])
	checkPeek(t, "no state behind one", laid(20, slices.Concat(record(1, good), record(2, nil)), nil), api.Seen{Code: api.Bad})
	late := laid(20, nil, slices.Concat(record(1, nil), record(2, good)))
	checkPeek(t, "a state behind none", late, api.Seen{Seq: 2, State: firstStates(setupOf(3, 5, 8))[1]})
}

func TestDirtyDisks(t *testing.T) {
	alice, _ := begun(3, 5)
	_, frames := sentBy(t, alice, 1, 1)
	for _, payload := range [][]byte{wire.EncodeState(alice), nil, []byte("no state")} {
		clean := laid(12, record(3, payload), nil)
		dirty := slices.Clone(clean)
		dirty[len(dirty)-1] = 1
		newer := slices.Clone(clean)
		copy(newer[64*12:], record(2, payload))
		for _, image := range [][]byte{dirty, newer} {
			checkPeek(t, "dirty", image, api.Seen{Code: api.Dirty})
			for _, c := range []call{sending(nil, api.Key{}), sending(make([]byte, 65537), api.Key{}), delivering(frames[0]), delivering(nil), compacting()} {
				c.refused(t, "dirty", image, api.Dirty)
			}
			sameBytes(t, "recovered", recovering().ok(t, image).Image, clean)
		}
	}
}

func TestRefusedSends(t *testing.T) {
	alice, bob := begun(3, 5)
	long, longer := make([]byte, 65536), make([]byte, 65537)
	sending(long, api.Key{}).ok(t, diskOf(t, 12, alice))
	for _, s := range []api.State{alice, bob} {
		sending(longer, api.Key{}).refused(t, "too long", diskOf(t, 12, s), api.TooLong)
		sending(make([]byte, api.MaxInput+1), api.Key{}).refused(t, "too long", diskOf(t, 12, s), api.TooLong)
	}
	sending(long, api.Key{}).refused(t, "the responder first", diskOf(t, 12, bob), api.NotReady)
	full, _ := sentBy(t, alice, 1, 1)
	full.Ns = math.MaxUint32
	sending(nil, api.Key{}).refused(t, "the chain's end", diskOf(t, 12, full), api.Counter)
	full.Ns--
	o := sending(nil, api.Key{}).ok(t, diskOf(t, 12, full))
	checkAnswer(t, "the last of a chain", answerOf(o), api.Answer{Out: o.Out, Epoch: 1, N: math.MaxUint32 - 1})
	sending(nil, api.Key{}).refused(t, "the chain's end", o.Image, api.Counter)
	full.HasSend, full.Send, full.SendEpoch = false, api.Key{}, math.MaxUint32
	sending(nil, api.Key{}).refused(t, "no chain is left", diskOf(t, 12, full), api.Counter)
	last := laid(12, record(math.MaxUint64, wire.EncodeState(alice)), nil)
	sending(nil, api.Key{}).refused(t, "no record is left", last, api.Counter)
	sending(longer, api.Key{}).refused(t, "too long, and no record is left", last, api.TooLong)
	last = laid(12, record(math.MaxUint64, wire.EncodeState(bob)), nil)
	sending(nil, api.Key{}).refused(t, "not ready, and no record is left", last, api.NotReady)
}

func withN(frame []byte, n uint32) []byte {
	frame = slices.Clone(frame)
	binary.BigEndian.PutUint32(frame[37:], n)
	return frame
}

func withPn(frame []byte, pn uint32) []byte {
	frame = slices.Clone(frame)
	binary.BigEndian.PutUint32(frame[33:], pn)
	return frame
}

func altered(b []byte, at int) []byte {
	b = slices.Clone(b)
	b[at] ^= 1
	return b
}

func TestRefusedDeliveries(t *testing.T) {
	alice, bob := begun(3, 5)
	talker, frames := sentBy(t, alice, 1, 9)
	fresh := diskOf(t, 20, bob)
	for _, b := range [][]byte{nil, {}, {0xd2}, frames[0][:76], frames[0][1:], append(slices.Clone(frames[0]), 0), altered(frames[0], 0), altered(frames[0], 44), noise(5, 90), make([]byte, api.MaxInput+1)} {
		delivering(b).refused(t, "no frame", fresh, api.Malformed)
	}
	delivering(withN(frames[0], math.MaxUint32)).refused(t, "the number at its end", fresh, api.Counter)
	for _, at := range []int{1, 32, 36, 45, len(frames[0]) - 32, len(frames[0]) - 1} {
		delivering(altered(frames[0], at)).refused(t, "altered", fresh, api.BadTag)
	}
	delivering(frames[0]).refused(t, "to its own sender", diskOf(t, 20, talker), api.BadTag)
	delivering(frames[0]).refused(t, "no own key", diskOf(t, 20, alice), api.NotReady)
	delivering(frames[4]).refused(t, "four are skipped", fresh, api.SkipLimit)
	delivering(withN(frames[0], 4)).refused(t, "four are skipped", fresh, api.SkipLimit)
	got := delivering(frames[3]).ok(t, fresh).Image
	delivering(frames[8]).refused(t, "four are skipped", got, api.SkipLimit)
	delivering(frames[7]).refused(t, "six keys", got, api.StoreFull)
	delivering(frames[3]).refused(t, "once more", got, api.Old)
	delivering(withN(frames[3], 2)).refused(t, "a kept key, another tag", got, api.BadTag)
	got = delivering(frames[2]).ok(t, got).Image
	delivering(frames[2]).refused(t, "once more", got, api.Old)
	full := turned(t, machine.Decrypt(bob, frames[0])).State
	full.RecvEpoch = math.MaxUint32
	_, others := sentBy(t, alice, 2, 1)
	delivering(others[0]).refused(t, "no chain is left", diskOf(t, 20, full), api.Counter)
	last := laid(20, record(math.MaxUint64, wire.EncodeState(bob)), nil)
	delivering(frames[0]).refused(t, "no record is left", last, api.Counter)
	delivering(altered(frames[0], 50)).refused(t, "a wrong tag, and no record is left", last, api.BadTag)
}

// Two chains alone keep to the skip limit, both together to the room.
func TestRefusedNewChain(t *testing.T) {
	alice, bob := begun(3, 5)
	alice, first := sentBy(t, alice, 1, 5)
	bob = turned(t, machine.Decrypt(bob, first[0])).State
	bob, back := sentBy(t, bob, 2, 1)
	alice = turned(t, machine.Decrypt(alice, back[0])).State
	_, second := sentBy(t, alice, 3, 3)
	image := diskOf(t, 20, bob)
	delivering(second[0]).refused(t, "four of the old chain", image, api.SkipLimit)
	image = delivering(first[1]).ok(t, image).Image
	delivering(withPn(second[2], 6)).refused(t, "four of the old chain", image, api.SkipLimit)
	delivering(withN(second[2], 4)).refused(t, "four of the new chain", image, api.SkipLimit)
	delivering(withN(second[2], 3)).refused(t, "three and three", image, api.StoreFull)
	o := delivering(second[2]).ok(t, image)
	checkAnswer(t, "three and two", answerOf(o), api.Answer{Out: []byte("message 2"), Epoch: 2, N: 2})
}

// A record of three kept keys fills a region of 8 sectors, one of four does
// not fit.
func TestDiskFull(t *testing.T) {
	alice, bob := begun(9, 5)
	_, frames := sentBy(t, alice, 1, 7)
	fresh := diskOf(t, 8, bob)
	delivering(frames[4]).refused(t, "four kept keys", fresh, api.DiskFull)
	delivering(frames[5]).refused(t, "five kept keys", fresh, api.DiskFull)
	delivering(frames[6]).refused(t, "six kept keys", fresh, api.StoreFull)
	delivering(altered(frames[4], 50)).refused(t, "a wrong tag, and four kept keys", fresh, api.BadTag)
	got := delivering(frames[3]).ok(t, fresh).Image
	if log := journal.Mount(got); log.Next != 8 || log.Live != 1 || len(log.Payload) != 442 {
		t.Errorf("three kept keys: %d bytes, next %d of region %d", len(log.Payload), log.Next, log.Live)
	}
	delivering(frames[5]).refused(t, "one more", got, api.DiskFull)
	delivering(frames[4]).ok(t, got)
	last := laid(8, record(math.MaxUint64, wire.EncodeState(bob)), nil)
	delivering(frames[4]).refused(t, "four kept keys, and no record is left", last, api.Counter)
}

// The greatest store lies on a disk, and a record of it can be sent on from.
func TestGreatestStore(t *testing.T) {
	alice, bob := begun(1000, 1000)
	_, frames := sentBy(t, alice, 1, 1002)
	fresh := diskOf(t, 4096, bob)
	delivering(frames[1001]).refused(t, "1001 keys", fresh, api.SkipLimit)
	o := delivering(frames[1000]).ok(t, fresh)
	seen := modelPeek(o.Image)
	if len(seen.State.Store) != 1000 {
		t.Fatalf("%d kept keys", len(seen.State.Store))
	}
	checkPeek(t, "1000 keys", o.Image, seen)
	delivering(withN(frames[1001], 1002)).refused(t, "1001 keys", o.Image, api.StoreFull)
	o = sending([]byte("back"), noiseKey(9)).ok(t, delivering(frames[0]).ok(t, o.Image).Image)
	if got := modelPeek(o.Image).State; len(got.Store) != 999 || got.Pub != prim.X25519(noiseKey(9), api.Key{9}) {
		t.Errorf("%d kept keys", len(got.Store))
	}
}
