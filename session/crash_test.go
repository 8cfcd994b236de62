package session_test

import (
	"bytes"
	"slices"
	"testing"

	"ratchet/api"
	"ratchet/journal"
	"ratchet/machine"
	"ratchet/wire"
)

// need is the number of sectors of a record.
func need(payload []byte) int { return 1 + (len(payload)+63)/64 }

// writes tells of a Send, Deliver or Compact that leads from one disk to
// another how many writes it does, and which of them is the commit sector's.
func writes(before, after []byte) (all, commit int) {
	was, is := journal.Mount(before), journal.Mount(after)
	commit = need(is.Payload)
	if was.Live == is.Live {
		return commit, commit
	}
	return commit + was.Next, commit
}

// leftovers are the numbers of the sectors that a Recover writes.
func leftovers(image, done []byte) int {
	n := 0
	for i, sector := range slices.Collect(slices.Chunk(image, 64)) {
		if !bytes.Equal(sector, done[64*i:64*i+64]) {
			n++
		}
	}
	return n
}

// keeps are choices of what is kept of up to n writes.
func keeps(n int) [][]bool {
	all, odd, first, last := make([]bool, n), make([]bool, n), make([]bool, n), make([]bool, n)
	for i := range n {
		all[i], odd[i], first[i], last[i] = true, i%2 == 1, i == 0, i == n-1
	}
	return [][]bool{nil, all, odd, first, last, all[:n/2]}
}

// plans let the power fail at each of so many writes, and at one more.
func plans(count int, cuts []int) []api.Crash {
	var list []api.Crash
	for at := 1; at <= count+1; at++ {
		for _, keep := range keeps(min(at, count)) {
			for _, cut := range cuts {
				list = append(list, api.Crash{At: at, Keep: keep, Cut: cut})
			}
		}
	}
	return append(list, api.Crash{At: -1, Cut: 64}, api.Crash{Cut: 3})
}

func strikes(crash api.Crash, count int) bool { return crash.At >= 1 && crash.At <= count }

// written says whether the commit sector is written whole.
func written(crash api.Crash, all, commit int) bool {
	return !strikes(crash, all) || crash.At > commit || crash.At == commit && crash.Cut >= 64
}

// A bench recovers disks, each kind of bytes once, and remembers what was left.
type bench struct {
	cuts []int
	done map[string][]byte
}

func newBench(cuts ...int) bench { return bench{cuts, map[string][]byte{}} }

// recovered cuts a Recover of the image off at every write, and asks that one
// without a power cut behind it leaves the same disk as one that was not cut
// off, and that a further one changes nothing.
func (b bench) recovered(t *testing.T, image []byte) []byte {
	t.Helper()
	if done, ok := b.done[string(image)]; ok {
		return done
	}
	done := recovering().ok(t, image).Image
	b.done[string(image)] = done
	sameBytes(t, "a further Recover", recovering().ok(t, done).Image, done)
	count := leftovers(image, done)
	left := map[string]bool{}
	for _, crash := range plans(count, b.cuts) {
		o := recovering().run(t, image, crash)
		if (o.Code == api.PowerCut) != strikes(crash, count) {
			t.Errorf("Recover, At %d of %d writes: code %d", crash.At, count, o.Code)
		}
		if !left[string(o.Image)] {
			sameBytes(t, "a Recover behind one that was cut off", recovering().ok(t, o.Image).Image, done)
		}
		left[string(o.Image)] = true
	}
	return done
}

// checkPowerCuts cuts a call off at every write. Behind a Recover the state is
// the one before the call or the one after it, and the one after it exactly if
// the commit sector was written whole (P3).
func checkPowerCuts(t *testing.T, c call, image []byte, cuts []int, b bench) {
	t.Helper()
	full := c.ok(t, image)
	before, after := modelPeek(image), modelPeek(full.Image)
	all, commit := writes(image, full.Image)
	if after.Seq != before.Seq+1 {
		t.Fatalf("%s: the number %d behind %d", c.name, after.Seq, before.Seq)
	}
	for _, crash := range plans(all, cuts) {
		o := c.run(t, image, crash)
		if (o.Code == api.PowerCut) != strikes(crash, all) {
			t.Errorf("%s, At %d of %d writes: code %d", c.name, crash.At, all, o.Code)
		}
		want := before
		if written(crash, all, commit) {
			want = after
		}
		if got := modelPeek(b.recovered(t, o.Image)); !sameSeen(got, want) {
			t.Errorf("%s, At %d, Cut %d, Keep %v: code %d, number %d behind Recover; want %d",
				c.name, crash.At, crash.Cut, crash.Keep, got.Code, got.Seq, want.Seq)
		}
		checkWhatIsSeen(t, o, want)
	}
}

// checkWhatIsSeen asks that a disk tells the state that counts or, until it is
// recovered, that it is dirty.
func checkWhatIsSeen(t *testing.T, o api.Outcome, want api.Seen) {
	t.Helper()
	got := modelPeek(o.Image)
	if got.Code == api.Dirty && o.Code == api.PowerCut {
		want = api.Seen{Code: api.Dirty}
	}
	checkPeek(t, "ahead of Recover", o.Image, want)
}

// stand is a conversation in which both parties keep keys: their disks, and a
// frame for each of them that skips one key more.
type stand struct {
	disks  [2][]byte
	frames [2][]byte
}

func standOf(t *testing.T, region int) stand {
	t.Helper()
	alice, bob := begun(5, 9)
	alice, first := sentBy(t, alice, 1, 4)
	bob = turned(t, machine.Decrypt(bob, first[1])).State
	bob, back := sentBy(t, bob, 2, 4)
	alice = turned(t, machine.Decrypt(alice, back[1])).State
	return stand{
		[2][]byte{diskOf(t, region, alice), diskOf(t, region, bob)},
		[2][]byte{back[3], first[3]},
	}
}

func (s stand) calls(party int) []call {
	return []call{sending([]byte("text"), noiseKey(5)), delivering(s.frames[party]), compacting()}
}

var manyCuts = []int{-1, 0, 1, 63, 64, 65}

// P3 where the new record goes behind the log, and where it goes to the other
// region.
func TestPowerCuts(t *testing.T) {
	t.Parallel()
	b := newBench(0, 63, 64)
	for _, region := range []int{12, 24} {
		s := standOf(t, region)
		for party, image := range s.disks {
			for _, c := range s.calls(party) {
				checkPowerCuts(t, c, image, manyCuts, b)
			}
		}
	}
}

// P3 in a region that a log of several records fills: many zeros are written.
func TestPowerCutsBehindALongLog(t *testing.T) {
	t.Parallel()
	b := newBench(63)
	s := standOf(t, 24)
	for party, image := range s.disks {
		for journal.Mount(image).Next < 18 {
			image = sending(nil, noiseKey(6)).ok(t, image).Image
		}
		for _, c := range s.calls(party) {
			checkPowerCuts(t, c, image, []int{0, 63, 64}, b)
		}
	}
}

// P3 for the first records of either party, in the smallest region.
func TestPowerCutsOfFreshDisks(t *testing.T) {
	t.Parallel()
	b := newBench(0, 63, 64)
	setup := setupOf(0, 0, 8)
	states := firstStates(setup)
	_, frames := sentBy(t, states[0], 1, 1)
	image := laid(8, record(1, wire.EncodeState(states[0])), nil)
	checkPowerCuts(t, sending(nil, noiseKey(1)), image, manyCuts, b)
	checkPowerCuts(t, compacting(), image, manyCuts, b)
	image = laid(8, nil, record(1, wire.EncodeState(states[1])))
	checkPowerCuts(t, delivering(frames[0]), image, manyCuts, b)
}

// Behind a power cut the same message is opened again, if the state before
// counts, and is not opened once more, if the state after counts.
func TestAgainBehindAPowerCut(t *testing.T) {
	s := standOf(t, 12)
	c := delivering(s.frames[1])
	full := c.ok(t, s.disks[1])
	all, commit := writes(s.disks[1], full.Image)
	for _, crash := range plans(all, []int{0, 63, 64}) {
		o := c.run(t, s.disks[1], crash)
		again := c.run(t, recovering().ok(t, o.Image).Image, api.Crash{})
		if written(crash, all, commit) {
			checkAnswer(t, "once more", answerOf(again), api.Answer{Code: api.Old})
		} else {
			checkAnswer(t, "again", answerOf(again), answerOf(full))
			sameBytes(t, "again", again.Image, full.Image)
		}
	}
}

// P7: one record of the present state, and zeros everywhere else.
func TestCompactLeavesNothing(t *testing.T) {
	for _, region := range []int{12, 17, 40} {
		s := standOf(t, region)
		for party, image := range s.disks {
			for _, c := range append(s.calls(party), s.calls(party)...) {
				image = checkCompact(t, c, image)
			}
		}
	}
	for _, setup := range setups() {
		for party := range 2 {
			checkOneRecord(t, laid(setup.Region, record(1, wire.EncodeState(firstStates(setup)[party])), nil))
		}
	}
}

// checkCompact makes a call, and compacts the disk.
func checkCompact(t *testing.T, c call, image []byte) []byte {
	t.Helper()
	o := c.run(t, image, api.Crash{})
	return checkOneRecord(t, o.Image)
}

func checkOneRecord(t *testing.T, image []byte) []byte {
	t.Helper()
	log, seen := journal.Mount(image), modelPeek(image)
	got := compacting().ok(t, image).Image
	one := record(seen.Seq+1, wire.EncodeState(seen.State))
	want := laid(len(image)/128, one, nil)
	if log.Live == 0 {
		want = laid(len(image)/128, nil, one)
	}
	sameBytes(t, "Compact", got, want)
	if most := need(make([]byte, 226+72*seen.State.Room)); len(one) > 64*most {
		t.Errorf("a record of %d bytes, with %d entries at most", len(one), seen.State.Room)
	}
	return got
}

// P7: what a power cut has interrupted leaves nothing behind either.
func TestCompactBehindPowerCuts(t *testing.T) {
	s := standOf(t, 14)
	for party, image := range s.disks {
		for _, c := range s.calls(party) {
			all, _ := writes(image, c.ok(t, image).Image)
			for _, crash := range plans(all, []int{0, 63, 64}) {
				checkOneRecord(t, recovering().ok(t, c.run(t, image, crash).Image).Image)
			}
		}
	}
}
