package journal_test

import (
	"math/rand/v2"
	"slices"
	"testing"

	"ratchet/api"
	"ratchet/journal"
)

// A thrower makes images and plans of all kinds, good ones and bad ones.
type thrower struct{ *rand.Rand }

func (d thrower) length() int {
	return []int{0, 1, 64, 65, d.IntN(130), d.IntN(500), 448 + d.IntN(400)}[d.IntN(7)]
}

// records are a row whose numbers follow now and then only.
func (d thrower) records() []byte {
	seq := []uint64{1, 2, 3, uint64(d.IntN(6)), 1<<64 - 1, 1<<64 - 2, 1<<32 - 1, 255}[d.IntN(8)]
	var b []byte
	for range d.IntN(5) {
		b = append(b, modelRecord(seq, noise(d.Uint64(), d.length()))...)
		seq += []uint64{1, 1, 1, 1, 1, 0, 2, 1<<64 - 1}[d.IntN(8)]
	}
	return b
}

// damage leaves most images as they are.
func (d thrower) damage(image []byte) []byte {
	switch i := d.IntN(len(image)); d.IntN(10) {
	case 0:
		image[i] ^= 1 << d.IntN(8)
	case 1:
		clear(image[i&^63:][:64])
	case 2:
		copy(image[i&^63:], noise(d.Uint64(), 64))
	case 3:
		clear(image[i&^63:][:d.IntN(65)])
	case 4:
		image = image[:i]
	}
	return image
}

func (d thrower) image() []byte {
	region := 8 + d.IntN(5)
	zero, one := d.records(), d.records()
	switch d.IntN(4) {
	case 0, 1:
		zero = nil
	case 2:
		one = nil
	}
	return d.damage(laid(region, zero[:min(len(zero), 64*region)], one))
}

func (d thrower) crash() api.Crash {
	crash := api.Crash{At: d.IntN(14), Cut: d.IntN(80) - 8}
	for range d.IntN(10) {
		crash.Keep = append(crash.Keep, d.IntN(2) == 0)
	}
	return crash
}

func (d thrower) call() call {
	return []call{appending(noise(d.Uint64(), d.length())), compacting(), recovering()}[d.IntN(3)]
}

// P15, P6 and P16, at images and crash plans of all kinds: rows of calls, each
// on the disk that the last one has left.
func TestRandomDisks(t *testing.T) {
	d := thrower{rand.New(rand.NewPCG(1, 2))}
	codes := map[int]int{}
	for range 6000 {
		image := d.image()
		for range 3 {
			checkMount(t, "a disk of any kind", image, modelMount(image))
			w := d.call().run(t, image, d.crash())
			codes[w.Code]++
			codes[100+journal.Mount(w.Image).Code]++
			image = w.Image
		}
	}
	for _, code := range []int{api.OK, api.Bad, api.Counter, api.DiskFull, api.Dirty, api.PowerCut, 100 + api.OK, 100 + api.Bad, 100 + api.Dirty} {
		if codes[code] < 50 {
			t.Errorf("code %d came up %d times: the disks ask too little", code, codes[code])
		}
	}
}

// Calls in any order on one disk, cut off now and then: Mount tells what the
// model tells, and two disks that hold the same bytes answer the same.
func TestRandomRows(t *testing.T) {
	for seed := range uint64(30) {
		d := thrower{rand.New(rand.NewPCG(seed, 3))}
		image := journal.Format(8+d.IntN(3), noise(seed, 70))
		for range 100 {
			crash := api.Crash{}
			if d.IntN(3) == 0 {
				crash = d.crash()
			}
			w := d.call().run(t, image, crash)
			checkMount(t, "a row", w.Image, modelMount(w.Image))
			image = slices.Clone(w.Image)
		}
	}
}
