package journal

import (
	"errors"

	"ratchet/api"
)

var (
	errBad      = errors.New("not an image that holds a journal")
	errDirty    = errors.New("an interrupted call has left something on the disk")
	errCounter  = errors.New("the sequence number stands at its end")
	errDiskFull = errors.New("the record does not fit into a region")
	errPowerCut = errors.New("the power failed")
)

func codeOf(err error) int {
	switch {
	case err == nil:
		return api.OK
	case errors.Is(err, errDirty):
		return api.Dirty
	case errors.Is(err, errCounter):
		return api.Counter
	case errors.Is(err, errDiskFull):
		return api.DiskFull
	case errors.Is(err, errPowerCut):
		return api.PowerCut
	}
	return api.Bad
}
