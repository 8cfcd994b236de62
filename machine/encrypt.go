package machine

import (
	"ratchet/api"
	"ratchet/prim"
	"ratchet/wire"
)

// refusalToSend looks for errors in the document's order.
func refusalToSend(s api.State, plain []byte) error {
	switch {
	case !wire.ValidState(s):
		return errBad
	case len(plain) > api.MaxPlain:
		return errTooLong
	case !s.HasPeer:
		return errNotReady
	case s.HasSend && s.Ns == api.MaxCounter, !s.HasSend && s.SendEpoch == api.MaxCounter:
		return errCounter
	}
	return nil
}

func sent(s api.State, plain []byte, seed api.Key) api.Turn {
	d := draftOf(s)
	if !d.HasSend {
		d.beginSending(seed)
	}
	head := api.Header{Pub: d.Pub, Pn: d.Pn, N: d.Ns}
	sealed := prim.Seal(d.nextToSend(), headerBytes(head), plain)
	frame := api.Frame{Head: head, Body: sealed.Body, Tag: sealed.Tag}
	return api.Turn{State: d.State, Out: wire.EncodeFrame(frame), Epoch: d.SendEpoch, N: head.N}
}

// headerBytes are what a tag covers of the header: the front of any frame that
// has it.
func headerBytes(head api.Header) []byte {
	return wire.EncodeFrame(api.Frame{Head: head})[:api.HeaderSize]
}
