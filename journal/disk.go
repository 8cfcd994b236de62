package journal

import (
	"slices"

	"ratchet/api"
)

// A sector is what a disk reads and writes at once.
type sector [api.SectorSize]byte

// A disk is what the journal can ask of it. The power may fail within write,
// which then panics with errPowerCut; read tells afterwards what is left.
type disk struct {
	write func(at int, s sector)
	flush func()
	read  func(at int) sector
	size  func() int // in sectors
}

// A pending write is one that no flush has made safe.
type pending struct {
	at   int
	data sector
}

// diskOf is a disk with these sectors on it, whose power fails as the plan says.
func diskOf(stored []sector, plan api.Crash) disk {
	var waiting []pending
	writes := 0
	return disk{
		write: func(at int, s sector) {
			writes++
			if writes == plan.At {
				settle(stored, kept(waiting, plan.Keep))
				copy(stored[at][:cutLength(plan.Cut)], s[:])
				waiting = nil
				panic(errPowerCut)
			}
			waiting = append(waiting, pending{at, s})
		},
		flush: func() {
			settle(stored, waiting)
			waiting = nil
		},
		read: func(at int) sector { return latest(waiting, at, stored[at]) },
		size: func() int { return len(stored) },
	}
}

func settle(stored []sector, writes []pending) {
	for _, w := range writes {
		stored[w.at] = w.data
	}
}

// kept are the waiting writes that outlive a power cut.
func kept(waiting []pending, keep []bool) []pending {
	var left []pending
	for j, w := range waiting {
		if j < len(keep) && keep[j] {
			left = append(left, w)
		}
	}
	return left
}

func cutLength(cut int) int { return max(0, min(cut, api.SectorSize)) }

// latest is what the last waiting write has put at a sector, or what is stored
// there: a disk reads what it was given, flushed or not.
func latest(waiting []pending, at int, stored sector) sector {
	for _, w := range slices.Backward(waiting) {
		if w.at == at {
			return w.data
		}
	}
	return stored
}

// readSectors are the sectors from..to-1.
func readSectors(d disk, from, to int) []sector {
	list := make([]sector, to-from)
	for i := range list {
		list[i] = d.read(from + i)
	}
	return list
}

func contents(d disk) []byte { return joined(readSectors(d, 0, d.size())) }

func regionSize(d disk) int { return d.size() / 2 }
