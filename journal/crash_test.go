package journal_test

import (
	"math"
	"math/rand/v2"
	"slices"
	"testing"

	"ratchet/api"
	"ratchet/journal"
)

// keeps are lists for Keep where n writes are waiting: every choice of few
// writes, some of many; shorter and longer lists too.
func keeps(n int) [][]bool {
	all, odd, even, first, last := make([]bool, n), make([]bool, n), make([]bool, n), make([]bool, n), make([]bool, n)
	for i := range n {
		all[i], odd[i], even[i], first[i], last[i] = true, i%2 == 1, i%2 == 0, i == 0, i == n-1
	}
	list := [][]bool{nil, all, append(slices.Clone(odd), true, true), even, append(first, false), last, all[:n/2]}
	if n > 3 {
		return list
	}
	for choice := range 1 << n {
		keep := make([]bool, n)
		for i := range keep {
			keep[i] = choice>>i&1 == 1
		}
		list = append(list, keep)
	}
	return list
}

// plans are crash plans for each write of a call and for one more. waiting
// tells how many writes wait ahead of each.
func plans(waiting []int, cuts []int) []api.Crash {
	list := []api.Crash{{}, {At: -1, Cut: 64}, {At: math.MinInt}, {At: math.MaxInt}, {At: len(waiting) + 1, Keep: []bool{true}, Cut: 5}}
	for i, n := range waiting {
		for _, keep := range keeps(n) {
			for _, cut := range cuts {
				list = append(list, api.Crash{At: i + 1, Keep: keep, Cut: cut})
			}
		}
	}
	return list
}

// strikes asks whether the plan's write is one of the call's.
func strikes(crash api.Crash, waiting []int) bool { return crash.At >= 1 && crash.At <= len(waiting) }

// A bench recovers disks, each kind of bytes once, and remembers what was left.
type bench struct {
	cuts []int
	done map[string][]byte
}

func newBench(cuts ...int) bench { return bench{cuts, map[string][]byte{}} }

// recovered cuts a Recover of the image off at every write, and asks that one
// without a power cut behind it leaves the same disk as one that was not cut
// off, and that a further one changes nothing.
func (b bench) recovered(t *testing.T, image []byte) []byte {
	t.Helper()
	if done, ok := b.done[string(image)]; ok {
		return done
	}
	done := recovering().ok(t, image)
	b.done[string(image)] = done
	sameBytes(t, "a further Recover", recovering().ok(t, done), done)
	checkCode(t, "a further Recover writes nothing", recovering().run(t, done, api.Crash{At: 1}).Code, api.OK)
	waiting, _ := recovering().writes(image)
	left := map[string]bool{}
	for _, crash := range plans(waiting, b.cuts) {
		w := recovering().run(t, image, crash)
		if want := strikes(crash, waiting); (w.Code == api.PowerCut) != want {
			t.Errorf("Recover, At %d of %d writes: code %d", crash.At, len(waiting), w.Code)
		}
		if !left[string(w.Image)] {
			sameBytes(t, "a Recover behind one that was cut off", recovering().ok(t, w.Image), done)
		}
		left[string(w.Image)] = true
	}
	return done
}

// wholeCommit asks whether the call's commit sector is written whole.
func wholeCommit(crash api.Crash, waiting []int, commit int) bool {
	return !strikes(crash, waiting) || crash.At > commit || crash.At == commit && crash.Cut >= 64
}

// checkPowerCuts cuts a call off at every write: behind a Recover the record is
// the one before or the one after, and the one after exactly if its commit
// sector was written whole (P3).
func checkPowerCuts(t *testing.T, c call, image []byte, cuts []int, b bench) {
	t.Helper()
	before, after := journal.Mount(image), journal.Mount(c.ok(t, image))
	if after.Seq != before.Seq+1 {
		t.Fatalf("%s: the number %d behind %d", c.name, after.Seq, before.Seq)
	}
	waiting, commit := c.writes(image)
	for _, crash := range plans(waiting, cuts) {
		w := c.run(t, image, crash)
		if want := strikes(crash, waiting); (w.Code == api.PowerCut) != want {
			t.Errorf("%s, At %d of %d writes: code %d", c.name, crash.At, len(waiting), w.Code)
		}
		want := before
		if wholeCommit(crash, waiting, commit) {
			want = after
		}
		got := journal.Mount(b.recovered(t, w.Image))
		if !sameLog(got, want) {
			t.Errorf("%s, At %d, Cut %d, Keep %v: code %d, number %d behind Recover; want %d",
				c.name, crash.At, crash.Cut, crash.Keep, got.Code, got.Seq, want.Seq)
		}
	}
}

var manyCuts = []int{math.MinInt, -1, 0, 1, 13, 45, 62, 63, 64, 65, math.MaxInt}

// P3, P15: a power cut at every write of an Append behind the log.
func TestPowerCutsInAppend(t *testing.T) {
	b := newBench(0, 1, 63, 64)
	image := laid(8, row(6, noise(1, 64)), nil)
	other := laid(9, nil, row(250, noise(2, 10), nil))
	for _, n := range []int{0, 1, 63, 64, 65, 128, 200, 256} {
		checkPowerCuts(t, appending(noise(4, n)), image, manyCuts, b)
		checkPowerCuts(t, appending(noise(5, n)), other, manyCuts, b)
	}
	checkPowerCuts(t, appending(make([]byte, 130)), image, manyCuts, b)
	checkPowerCuts(t, appending(noise(6, 320)), image, manyCuts, b)
}

// The same where the record goes to the other region, and for Compact.
func TestPowerCutsInCompaction(t *testing.T) {
	b := newBench(0, 63)
	moved, cuts := laid(8, row(6, noise(7, 64), noise(8, 190)), nil), []int{-1, 0, 1, 63, 64, 65}
	checkPowerCuts(t, compacting(), moved, cuts, b)
	checkPowerCuts(t, appending(noise(11, 130)), moved, cuts, b)
	back := laid(8, nil, row(255, nil, nil, nil, noise(9, 100), nil, nil))
	checkPowerCuts(t, compacting(), back, cuts, b)
	checkPowerCuts(t, appending(noise(11, 65)), back, cuts, b)
	whole := laid(8, row(1<<32-1, noise(10, 448)), nil)
	checkPowerCuts(t, appending(noise(11, 448)), whole, []int{0, 1, 63, 64}, b)
	full := laid(8, row(2, nil, nil, nil, nil, nil, nil, nil, nil), nil)
	checkPowerCuts(t, appending(nil), full, manyCuts, b)
	checkPowerCuts(t, compacting(), laid(8, row(2, nil), nil), manyCuts, b)
}

// Payloads that look like records themselves are never taken for any.
func TestPayloadsThatLookLikeRecords(t *testing.T) {
	b := newBench(0, 64)
	image := laid(9, row(6, noise(12, 30)), nil)
	for _, p := range [][]byte{row(7, nil), row(8, nil, nil), row(7, noise(13, 60)), row(8, noise(13, 60)), row(9, nil, noise(14, 9))} {
		checkPowerCuts(t, appending(p), image, []int{0, 1, 63, 64}, b)
		next := appending(p).ok(t, image)
		checkMount(t, "a record in a record", next, api.Log{Seq: 7, Next: 3 + len(p)/64, Payload: p})
		checkPowerCuts(t, compacting(), next, []int{0, 1, 63, 64}, b)
	}
}

// A power cut at writes of the greatest region.
func TestPowerCutsInTheGreatestRegion(t *testing.T) {
	full := laid(api.MaxRegion, row(6, noise(15, 64*4095)), nil)
	next := noise(16, 64*4095)
	c := appending(next)
	waiting, commit := c.writes(full)
	if len(waiting) != 2*4096 || commit != 4096 {
		t.Fatalf("%d writes, the commit sector's is %d", len(waiting), commit)
	}
	for _, at := range []int{1, 2, 4095, 4096, 4097, 4098, 8192, 8193} {
		keep := make([]bool, max(0, at%4096-2))
		for i := range keep {
			keep[i] = i%3 == 0
		}
		for _, cut := range []int{1, 64} {
			crash := api.Crash{At: at, Keep: keep, Cut: cut}
			done := recovering().ok(t, c.run(t, full, crash).Image)
			if wholeCommit(crash, waiting, commit) {
				sameBytes(t, "the disk after", done, laid(api.MaxRegion, nil, row(7, next)))
			} else {
				sameBytes(t, "the disk before", done, full)
			}
		}
	}
}

// A row of Appends and Compacts, each cut off somewhere and mended: nothing
// but whole steps shows, and the numbers count them.
func TestRowsOfPowerCuts(t *testing.T) {
	for seed := range uint64(40) {
		d := thrower{rand.New(rand.NewPCG(seed, 4))}
		image, seq, last := journal.Format(8+d.IntN(4), nil), uint64(1), []byte(nil)
		for range 120 {
			c := appending(noise(d.Uint64(), d.IntN(449)))
			if d.IntN(4) == 0 {
				c = compacting()
			}
			waiting, commit := c.writes(image)
			crash := d.crash()
			w := c.run(t, image, crash)
			if wholeCommit(crash, waiting, commit) {
				seq++
				if c.name == "Append" {
					last = c.payload
				}
			}
			image = recovering().ok(t, w.Image)
			log := modelMount(image)
			checkMount(t, "mended", image, api.Log{Seq: seq, Live: log.Live, Next: log.Next, Payload: last})
		}
	}
}
