package journal

import "ratchet/api"

// wrote carries an operation out on the image. What is no image is handed back.
func wrote(image []byte, plan api.Crash, operation func(disk) error) api.Wrote {
	stored, err := imageSectors(image)
	if err != nil {
		return api.Wrote{Code: codeOf(err), Image: append([]byte(nil), image...)}
	}
	left, err := operate(diskOf(stored, plan), operation)
	return api.Wrote{Code: codeOf(err), Image: left}
}

// operate hands out what is on the disk behind the operation, also where a
// power cut has ended it. An operation that refuses has not written, so that
// this is then what was on the disk before.
func operate(d disk, operation func(disk) error) (left []byte, err error) {
	defer func() {
		if cut, ok := recover().(error); ok {
			left, err = contents(d), cut
		}
	}()
	err = operation(d)
	return contents(d), err
}

func appendRecord(d disk, payload []byte) error {
	l, err := cleanLog(d)
	if err != nil {
		return err
	}
	r, err := l.successor(payload)
	if err != nil {
		return err
	}
	region := regionSize(d)
	switch {
	case r.sectors() > region:
		return errDiskFull
	case l.next+r.sectors() > l.start+region:
		move(d, l, r)
	default:
		put(d, l.next, r)
	}
	return nil
}

func compact(d disk) error {
	l, err := cleanLog(d)
	if err != nil {
		return err
	}
	r, err := l.successor(l.last.payload)
	if err != nil {
		return err
	}
	move(d, l, r)
	return nil
}

func wipeLeftovers(d disk) error {
	l, err := liveLog(d)
	if err != nil {
		return err
	}
	wipe(d, leftovers(d, l))
	return nil
}

// put writes a record. Its payload is safe before it counts.
func put(d disk, at int, r record) {
	for i, s := range r.body() {
		d.write(at+1+i, s)
	}
	d.flush()
	d.write(at, r.commit())
	d.flush()
}

// move puts a record at the start of the other region. It is safe before the
// old log goes.
func move(d disk, l log, r record) {
	put(d, regionSize(d)-l.start, r)
	wipe(d, l.places())
}

func wipe(d disk, places []int) {
	if len(places) == 0 {
		return
	}
	for _, at := range places {
		d.write(at, sector{})
	}
	d.flush()
}
