package journal_test

import (
	"math"
	"slices"
	"sync"
	"testing"

	"ratchet/api"
	"ratchet/journal"
)

// checkRow appends payloads of these lengths, and asks each time that Mount
// tells the last one and a number greater by one, and how often the log has
// changed its region.
func checkRow(t *testing.T, region int, lengths []int) int {
	t.Helper()
	image, moves := journal.Format(region, nil), 0
	before := journal.Mount(image)
	for i, n := range lengths {
		p := noise(uint64(i), n)
		image = appending(p).ok(t, image)
		now := journal.Mount(image)
		want := api.Log{Seq: uint64(i + 2), Live: before.Live, Next: before.Next + 1 + (n+63)/64, Payload: p}
		if want.Next > region {
			want.Live, want.Next, moves = 1-want.Live, want.Next-before.Next, moves+1
		}
		checkMount(t, "a row", image, want)
		before = now
	}
	return moves
}

// P15: rows of payloads, over many compactions.
func TestRows(t *testing.T) {
	for region := 8; region < 20; region++ {
		var mixed []int
		for i := range 150 {
			mixed = append(mixed, i*i*37%(64*(region-1)+1))
		}
		if moves := checkRow(t, region, mixed); moves < 30 {
			t.Errorf("region %d: %d compactions only", region, moves)
		}
		for _, n := range []int{0, 1, 64, 65, 64 * (region - 1)} {
			sectors := 1 + (n+63)/64
			rows := slices.Repeat([]int{n}, 100)
			// The first record has one sector.
			want := 1 + (100-(region-1)/sectors-1)/(region/sectors)
			if moves := checkRow(t, region, rows); moves != want {
				t.Errorf("region %d, %d bytes: %d compactions, want %d", region, n, moves, want)
			}
		}
	}
}

// Where a record goes, by images that are laid down here.
func TestWhereARecordGoes(t *testing.T) {
	a, b, none := noise(1, 64), noise(2, 65), []byte(nil)
	image := journal.Format(8, a)
	image = appending(b).ok(t, image)
	sameBytes(t, "behind the first", image, laid(8, row(1, a, b), nil))
	image = appending(b).ok(t, image)
	sameBytes(t, "up to the end", image, laid(8, row(1, a, b, b), nil))
	image = appending(none).ok(t, image)
	sameBytes(t, "no room for one sector", image, laid(8, nil, row(4, none)))
	image = appending(noise(3, 321)).ok(t, image)
	sameBytes(t, "just fits", image, laid(8, nil, row(4, none, noise(3, 321))))
	image = appending(noise(4, 448)).ok(t, image)
	sameBytes(t, "fills a region", image, laid(8, row(6, noise(4, 448)), nil))
	image = appending(noise(5, 448)).ok(t, image)
	sameBytes(t, "fills a region again", image, laid(8, nil, row(7, noise(5, 448))))
	image = compacting().ok(t, image)
	sameBytes(t, "compacted", image, laid(8, row(8, noise(5, 448)), nil))
	image = compacting().ok(t, appending(a).ok(t, image))
	sameBytes(t, "compacted", image, laid(8, row(10, a), nil))
	image = compacting().ok(t, appending(none).ok(t, appending(b).ok(t, image)))
	sameBytes(t, "compacted", image, laid(8, nil, row(13, none)))
	sameBytes(t, "recovered", recovering().ok(t, image), image)
}

func TestDiskFull(t *testing.T) {
	for _, region := range []int{8, 9, 50, 4096} {
		most := 64 * (region - 1)
		for _, image := range [][]byte{
			laid(region, row(3, noise(6, 10)), nil), laid(region, nil, row(1, noise(7, most))), laid(region, row(1, nil, nil), nil),
		} {
			next := journal.Mount(image).Seq + 1
			got := journal.Mount(appending(noise(8, most)).ok(t, image))
			if got.Code != api.OK || got.Seq != next || got.Next != region {
				t.Errorf("region %d: code %d, number %d, next %d", region, got.Code, got.Seq, got.Next)
			}
			for _, n := range []int{most + 1, most + 64, most + 65, 2 * most, api.MaxInput + 1} {
				for _, at := range []int{0, 1} {
					w := appending(noise(9, n)).run(t, image, api.Crash{At: at, Cut: 64})
					checkCode(t, "too long a payload", w.Code, api.DiskFull)
				}
			}
		}
	}
}

func TestNumberAtItsEnd(t *testing.T) {
	a, b := noise(10, 20), noise(11, 100)
	for _, image := range [][]byte{
		laid(8, row(math.MaxUint64, a), nil), laid(8, nil, row(math.MaxUint64-1, b, a)), laid(8, row(math.MaxUint64, noise(12, 448)), nil),
	} {
		checkMount(t, "the greatest number", image, modelMount(image))
		for _, c := range []call{appending(nil), appending(b), appending(noise(13, 448)), appending(noise(14, 449)), compacting()} {
			for _, at := range []int{0, 1} {
				checkCode(t, c.name, c.run(t, image, api.Crash{At: at}).Code, api.Counter)
			}
		}
		sameBytes(t, "recovered", recovering().ok(t, image), image)
	}
	image := laid(8, row(math.MaxUint64-1, a), nil)
	sameBytes(t, "the last number", appending(b).ok(t, image), laid(8, row(math.MaxUint64-1, a, b), nil))
	sameBytes(t, "the last number", compacting().ok(t, image), laid(8, nil, row(math.MaxUint64, a)))
	full := laid(8, row(math.MaxUint64-1, noise(15, 448)), nil)
	sameBytes(t, "the last number", appending(b).ok(t, full), laid(8, nil, row(math.MaxUint64, b)))
}

// The first error in the document's order is the one that is told.
func TestOrderOfErrors(t *testing.T) {
	last := row(math.MaxUint64, noise(16, 5))
	dirty := laid(8, last, nil)
	dirty[1023] = 1
	checkDirty(t, "dirty, and at the end of the numbers", dirty, laid(8, last, nil))
	long := appending(noise(17, 5000))
	checkCode(t, "dirty, and too long", long.run(t, dirty, api.Crash{}).Code, api.Dirty)
	checkCode(t, "the end of the numbers, and too long", long.run(t, laid(8, last, nil), api.Crash{}).Code, api.Counter)
	checkCode(t, "no journal, and too long", long.run(t, laid(8, nil, nil), api.Crash{}).Code, api.Bad)
}

// all is one answer of every call.
func all(seed uint64) []byte {
	image := journal.Format(9+int(seed), noise(seed, 70))
	image = journal.Append(image, noise(seed+1, 100), api.Crash{}).Image
	cut := journal.Append(image, noise(seed+2, 400), api.Crash{At: 4, Keep: []bool{true, false, true}, Cut: 9})
	mended := journal.Recover(cut.Image, api.Crash{})
	moved := journal.Compact(mended.Image, api.Crash{})
	return slices.Concat(image, cut.Image, mended.Image, moved.Image, journal.Mount(moved.Image).Payload)
}

// Nothing is kept from call to call: what was asked before, or is asked at
// the same time, does not show.
func TestNothingIsKept(t *testing.T) {
	var want, got [8][]byte
	for i := range want {
		want[i] = all(uint64(i))
	}
	var group sync.WaitGroup
	for i := range got {
		group.Go(func() { got[i] = all(uint64(i)) })
	}
	group.Wait()
	for i := range got {
		sameBytes(t, "at the same time", got[i], want[i])
		sameBytes(t, "once more", all(uint64(i)), want[i])
	}
}
