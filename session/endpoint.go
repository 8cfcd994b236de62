package session

import (
	"ratchet/api"
	"ratchet/journal"
	"ratchet/machine"
	"ratchet/prim"
	"ratchet/wire"
)

func isSetup(setup api.Setup) bool {
	return setup.Skip >= 0 && setup.Skip <= api.MaxSkip &&
		setup.Room >= 0 && setup.Room <= api.MaxStore &&
		setup.Region >= api.MinRegion && setup.Region <= api.MaxRegion
}

func isParty(party int) bool { return party == api.Initiator || party == api.Responder }

func firstState(setup api.Setup, party int) api.State {
	key := setup.Priv
	if party == api.Initiator {
		key = prim.X25519(setup.Priv, api.Key{9})
	}
	return machine.Begin(party, setup.Root, key, setup.Skip, setup.Room)
}

// journaled takes a turn of the machine. What the turn gives out is released
// only behind the flush of the state that it leads to.
func journaled(image []byte, crash api.Crash, turn func(api.State) api.Turn) api.Outcome {
	seen := Peek(image)
	if seen.Code != api.OK {
		return refused(image, seen.Code)
	}
	t := turn(seen.State)
	if t.Code != api.OK {
		return refused(image, t.Code)
	}
	wrote := journal.Append(image, wire.EncodeState(t.State), crash)
	if wrote.Code != api.OK {
		return api.Outcome{Code: wrote.Code, Image: wrote.Image}
	}
	return api.Outcome{Code: api.OK, Image: wrote.Image, Out: t.Out, Epoch: t.Epoch, N: t.N}
}

// refused hands back the image that went in, in memory of its own.
func refused(image []byte, code int) api.Outcome {
	return api.Outcome{Code: code, Image: append([]byte(nil), image...)}
}
