package machine

import (
	"errors"

	"ratchet/api"
)

var (
	errBad       = errors.New("not a valid state")
	errMalformed = errors.New("not a frame")
	errBadTag    = errors.New("the tag is wrong under the key of the position")
	errSkipLimit = errors.New("more keys to skip in one chain than the skip limit")
	errStoreFull = errors.New("the skipped keys do not fit into the store")
	errCounter   = errors.New("a counter stands at its end")
	errOld       = errors.New("the position lies behind and no key is kept for it")
	errNotReady  = errors.New("a key of the peer or of one's own is not there yet")
	errTooLong   = errors.New("the message is too long")
)

func codeOf(err error) int {
	switch {
	case errors.Is(err, errMalformed):
		return api.Malformed
	case errors.Is(err, errBadTag):
		return api.BadTag
	case errors.Is(err, errSkipLimit):
		return api.SkipLimit
	case errors.Is(err, errStoreFull):
		return api.StoreFull
	case errors.Is(err, errCounter):
		return api.Counter
	case errors.Is(err, errOld):
		return api.Old
	case errors.Is(err, errNotReady):
		return api.NotReady
	case errors.Is(err, errTooLong):
		return api.TooLong
	}
	return api.Bad
}

// refused hands back the state that went in. What is no state is not handed
// back: its store may be of any length.
func refused(s api.State, err error) api.Turn {
	if errors.Is(err, errBad) {
		return api.Turn{Code: api.Bad}
	}
	return api.Turn{Code: codeOf(err), State: copied(s)}
}

// copied gives s a store of its own.
func copied(s api.State) api.State {
	s.Store = append([]api.Skipped(nil), s.Store...)
	return s
}
