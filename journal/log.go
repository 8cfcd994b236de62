package journal

import "math"

// A log is the row of records that counts. Its places are counted over the
// whole disk.
type log struct {
	start int // the live region's first sector
	next  int // the sector behind the last record
	last  record
}

// liveLog reads the log of a disk, clean or not.
func liveLog(d disk) (log, error) {
	region := regionSize(d)
	zero, zeroBegins := recordAt(d, 0, region)
	one, oneBegins := recordAt(d, region, 2*region)
	switch {
	case oneBegins && (!zeroBegins || one.seq > zero.seq):
		return followed(d, region, one), nil
	case zeroBegins:
		return followed(d, 0, zero), nil
	}
	return log{}, errBad
}

// followed is the log that begins with the record at a region's start. Behind
// the greatest number the sum is 0, and that is no record's number.
func followed(d disk, start int, first record) log {
	l := log{start, start + first.sectors(), first}
	end := start + regionSize(d)
	for l.next < end {
		r, ok := recordAt(d, l.next, end)
		if !ok || r.seq != l.last.seq+1 {
			break
		}
		l.next, l.last = l.next+r.sectors(), r
	}
	return l
}

// cleanLog reads the log of a disk that holds nothing else.
func cleanLog(d disk) (log, error) {
	l, err := liveLog(d)
	if err != nil {
		return log{}, err
	}
	if len(leftovers(d, l)) > 0 {
		return log{}, errDirty
	}
	return l, nil
}

// leftovers are the places of the sectors that are not of the log and not zero.
func leftovers(d disk, l log) []int {
	var places []int
	for at := range d.size() {
		if (at < l.start || at >= l.next) && d.read(at) != (sector{}) {
			places = append(places, at)
		}
	}
	return places
}

// places are those of the log's own sectors.
func (l log) places() []int {
	var places []int
	for at := l.start; at < l.next; at++ {
		places = append(places, at)
	}
	return places
}

// successor is the record that is to come behind the log's last one.
func (l log) successor(payload []byte) (record, error) {
	if l.last.seq == math.MaxUint64 {
		return record{}, errCounter
	}
	return record{l.last.seq + 1, payload}, nil
}
