package journal

import (
	"errors"
	"testing"

	"ratchet/api"
)

// filled is a sector that is the byte b throughout.
func filled(b byte) sector {
	var s sector
	for i := range s {
		s[i] = b
	}
	return s
}

func isPowerCut(work func()) (cut bool) {
	defer func() {
		err, ok := recover().(error)
		cut = ok && errors.Is(err, errPowerCut)
	}()
	work()
	return false
}

func checkSectors(t *testing.T, what string, d disk, want ...sector) {
	t.Helper()
	if d.size() != len(want) {
		t.Fatalf("%s: %d sectors, want %d", what, d.size(), len(want))
	}
	for at, s := range want {
		if d.read(at) != s {
			t.Errorf("%s: sector %d begins %x, want %x", what, at, d.read(at)[0], s[0])
		}
	}
}

func TestDiskReadsWhatItWasGiven(t *testing.T) {
	a, b, c := filled(1), filled(2), filled(3)
	d := diskOf([]sector{a, a, a}, api.Crash{})
	checkSectors(t, "fresh", d, a, a, a)
	d.write(1, b)
	checkSectors(t, "not flushed", d, a, b, a)
	d.write(1, c)
	d.write(2, b)
	checkSectors(t, "written twice", d, a, c, b)
	d.flush()
	d.flush()
	checkSectors(t, "flushed", d, a, c, b)
}

// A power cut unwinds its write with the error value, and leaves what the plan
// keeps; what was flushed is safe.
func TestDiskPowerCut(t *testing.T) {
	a, b, c := filled(1), filled(2), filled(3)
	torn := a
	copy(torn[:10], c[:])
	cases := []struct {
		keep []bool
		want []sector
	}{
		{nil, []sector{b, a, a, torn}},
		{[]bool{true}, []sector{b, b, a, torn}},
		{[]bool{false, true}, []sector{b, a, b, torn}},
		{[]bool{true, true, true, true}, []sector{b, b, b, torn}},
	}
	for _, x := range cases {
		d := diskOf([]sector{a, a, a, a}, api.Crash{At: 4, Keep: x.keep, Cut: 10})
		d.write(0, b)
		d.flush()
		d.write(1, b)
		d.write(2, b)
		if !isPowerCut(func() { d.write(3, c) }) {
			t.Error("the power has not failed")
		}
		checkSectors(t, "behind the power cut", d, x.want...)
	}
}

// Of two waiting writes of one sector the later one wins where both are kept,
// and a cut write lies on top of what is kept of its sector.
func TestDiskOneSectorTwice(t *testing.T) {
	a, b, c := filled(1), filled(2), filled(3)
	for choice, below := range []sector{a, b, c, c} {
		keep := []bool{choice&1 == 1, choice&2 == 2}
		for _, cut := range []int{0, 1, 64} {
			d := diskOf([]sector{a}, api.Crash{At: 3, Keep: keep, Cut: cut})
			d.write(0, b)
			d.write(0, c)
			last := filled(4)
			if !isPowerCut(func() { d.write(0, last) }) {
				t.Error("the power has not failed")
			}
			want := below
			copy(want[:cut], last[:])
			checkSectors(t, "one sector", d, want)
		}
	}
}

// No panic leaves an operation.
func TestOperate(t *testing.T) {
	a, b := filled(1), filled(2)
	write := func(d disk) error {
		d.write(0, b)
		d.flush()
		return nil
	}
	left, err := operate(diskOf([]sector{a}, api.Crash{At: 1, Cut: 64}), write)
	if !errors.Is(err, errPowerCut) || sector(left) != b {
		t.Errorf("a power cut: %v, %x", err, left[0])
	}
	left, err = operate(diskOf([]sector{a}, api.Crash{At: 2}), write)
	if err != nil || sector(left) != b {
		t.Errorf("no power cut: %v, %x", err, left[0])
	}
	left, err = operate(diskOf([]sector{a}, api.Crash{At: 1}), func(disk) error { return errDirty })
	if !errors.Is(err, errDirty) || sector(left) != a {
		t.Errorf("refused: %v, %x", err, left[0])
	}
}

func TestCodes(t *testing.T) {
	codes := map[error]int{
		nil: api.OK, errBad: api.Bad, errDirty: api.Dirty, errCounter: api.Counter,
		errDiskFull: api.DiskFull, errPowerCut: api.PowerCut, errors.New("another"): api.Bad,
	}
	for err, code := range codes {
		if codeOf(err) != code {
			t.Errorf("%v: code %d, want %d", err, codeOf(err), code)
		}
	}
}
