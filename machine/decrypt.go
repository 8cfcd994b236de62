package machine

import (
	"slices"

	"ratchet/api"
	"ratchet/prim"
	"ratchet/wire"
)

// received looks for errors in the document's order.
func received(s api.State, frame []byte) (api.Turn, error) {
	if !wire.ValidState(s) {
		return api.Turn{}, errBad
	}
	f, ok := wire.DecodeFrame(frame)
	if !ok {
		return api.Turn{}, errMalformed
	}
	if f.Head.N == api.MaxCounter {
		return api.Turn{}, errCounter
	}
	if i := keptFor(s.Store, f.Head); i >= 0 {
		return receivedByKept(s, f, i)
	}
	return receivedByChain(s, f)
}

// keptFor is the place of the first entry for the header's message, or -1.
func keptFor(store []api.Skipped, head api.Header) int {
	return slices.IndexFunc(store, func(e api.Skipped) bool {
		return e.Pub == head.Pub && e.N == head.N
	})
}

func receivedByKept(s api.State, f api.Frame, i int) (api.Turn, error) {
	entry := s.Store[i]
	out, err := opened(entry.Key, f)
	if err != nil {
		return api.Turn{}, err
	}
	next := copied(s)
	next.Store = slices.Delete(next.Store, i, i+1)
	return api.Turn{State: next, Out: out, Epoch: entry.Epoch, N: entry.N}, nil
}

func receivedByChain(s api.State, f api.Frame) (api.Turn, error) {
	present := s.RecvEpoch > 0 && f.Head.Pub == s.Peer
	if err := refusalToStep(s, f.Head, present); err != nil {
		return api.Turn{}, err
	}
	d := draftOf(s)
	if !present {
		d.skipTo(oldEnd(s, f.Head))
		d.beginReceiving(f.Head.Pub)
	}
	d.skipTo(f.Head.N)
	out, err := opened(d.nextToReceive(), f)
	if err != nil {
		return api.Turn{}, err
	}
	return api.Turn{State: d.State, Out: out, Epoch: d.RecvEpoch, N: f.Head.N}, nil
}

// refusalToStep asks everything that can be asked ahead of the first key, so
// that a forged header makes no more keys than the limits allow.
func refusalToStep(s api.State, head api.Header, present bool) error {
	switch {
	case present && head.N < s.Nr:
		return errOld
	case present:
		return refusalToSkip(s, 0, head.N-s.Nr)
	case !s.HasOwn:
		return errNotReady
	case s.RecvEpoch == api.MaxCounter:
		return errCounter
	}
	return refusalToSkip(s, oldEnd(s, head)-s.Nr, head.N)
}

// refusalToSkip holds each row of positions alone against the skip limit, and
// both together with the store against its room.
func refusalToSkip(s api.State, old, now uint32) error {
	switch {
	case uint64(max(old, now)) > uint64(s.Skip):
		return errSkipLimit
	case uint64(len(s.Store))+uint64(old)+uint64(now) > uint64(s.Room):
		return errStoreFull
	}
	return nil
}

// oldEnd is where the receiving chain ends when a new one begins with head:
// its peer has sent Pn messages in it. Where there is no chain yet, or more of
// it has come than head tells, nothing is left to skip.
func oldEnd(s api.State, head api.Header) uint32 {
	if s.RecvEpoch == 0 {
		return s.Nr
	}
	return max(s.Nr, head.Pn)
}

// opened asks the tag over the header as it came: a frame has one form.
func opened(mk api.Key, f api.Frame) ([]byte, error) {
	out, ok := prim.Open(mk, headerBytes(f.Head), api.Sealed{Body: f.Body, Tag: f.Tag})
	if !ok {
		return nil, errBadTag
	}
	return out, nil
}
