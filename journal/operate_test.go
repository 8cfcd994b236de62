package journal

import (
	"strconv"
	"strings"
	"testing"

	"ratchet/api"
)

// watched is the disk, and the row of what is asked of it: w and the place of
// each write, f for each flush.
func watched(d disk, row *[]string) disk {
	write, flush := d.write, d.flush
	d.write = func(at int, s sector) {
		*row = append(*row, "w"+strconv.Itoa(at))
		write(at, s)
	}
	d.flush = func() {
		*row = append(*row, "f")
		flush()
	}
	return d
}

func checkOrder(t *testing.T, what string, image []byte, operation func(disk) error, want string) {
	t.Helper()
	stored, err := imageSectors(image)
	if err != nil {
		t.Fatal(err)
	}
	var row []string
	if _, err := operate(watched(diskOf(stored, api.Crash{}), &row), operation); err != nil {
		t.Fatalf("%s: %v", what, err)
	}
	if got := strings.Join(row, " "); got != want {
		t.Errorf("%s: %s; want %s", what, got, want)
	}
}

func appendingOf(n int) func(disk) error {
	return func(d disk) error { return appendRecord(d, make([]byte, n)) }
}

// The order of writes and flushes, and that the last write has a flush behind
// it.
func TestOrderOfWrites(t *testing.T) {
	zero := Format(8, make([]byte, 100)) // the sectors 0 to 2
	one := Compact(zero, api.Crash{}).Image
	checkOrder(t, "behind the log", zero, appendingOf(129), "w4 w5 w6 f w3 f")
	checkOrder(t, "behind the log", one, appendingOf(64), "w12 f w11 f")
	checkOrder(t, "no bytes", one, appendingOf(0), "f w11 f")
	checkOrder(t, "to the other region", zero, appendingOf(321), "w9 w10 w11 w12 w13 w14 f w8 f w0 w1 w2 f")
	checkOrder(t, "to the other region", one, appendingOf(448), "w1 w2 w3 w4 w5 w6 w7 f w0 f w8 w9 w10 f")
	checkOrder(t, "Compact", zero, compact, "w9 w10 f w8 f w0 w1 w2 f")
	checkOrder(t, "Recover of a clean disk", zero, wipeLeftovers, "")
	dirty := Format(8, nil)
	dirty[5*64+63], dirty[64], dirty[15*64], dirty[9*64+30] = 1, 1, 1, 1
	checkOrder(t, "Recover", dirty, wipeLeftovers, "w1 w5 w9 w15 f")
}
