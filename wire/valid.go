package wire

import (
	"cmp"

	"ratchet/api"
)

func limitsHold(s api.State) bool {
	return s.Skip >= 0 && s.Skip <= api.MaxSkip &&
		s.Room >= 0 && s.Room <= api.MaxStore && len(s.Store) <= s.Room
}

// absentIsZero asks that a key that is not there is zero, so that states that
// say the same are equal, and nothing is left of a key that has gone.
func absentIsZero(s api.State) bool {
	none := api.Key{}
	return (s.HasOwn || s.Priv == none && s.Pub == none) &&
		(s.HasPeer || s.Peer == none) &&
		(s.HasSend || s.Send == none)
}

func unbegunIsZero(s api.State) bool {
	if s.RecvEpoch == 0 && (s.Recv != api.Key{} || s.Nr != 0) {
		return false
	}
	return s.SendEpoch > 0 || !s.HasSend && s.Ns == 0 && s.Pn == 0
}

func chainsHaveKeys(s api.State) bool {
	begun := s.SendEpoch > 0 || s.RecvEpoch > 0
	return !begun || s.HasOwn && s.HasPeer
}

func storeGrows(s api.State) bool {
	for i, e := range s.Store {
		if !passed(s, e) || i > 0 && byPosition(s.Store[i-1], e) >= 0 {
			return false
		}
	}
	return true
}

// passed says whether e lies in a receiving chain that has begun, and there
// behind the number that is expected next.
func passed(s api.State, e api.Skipped) bool {
	if e.Epoch < 1 || e.Epoch > s.RecvEpoch {
		return false
	}
	return e.Epoch < s.RecvEpoch || e.N < s.Nr
}

func byPosition(a, b api.Skipped) int {
	return cmp.Or(cmp.Compare(a.Epoch, b.Epoch), cmp.Compare(a.N, b.N))
}
