package session_test

import (
	"encoding/hex"
	"math"
	"strconv"
	"testing"

	"ratchet/api"
	"ratchet/machine"
	"ratchet/prim"
	"ratchet/session"
	"ratchet/wire"
)

// firstStates are the two parties' states as chapters 5 and 7 tell them.
func firstStates(setup api.Setup) [2]api.State {
	public := prim.X25519(setup.Priv, api.Key{9})
	return [2]api.State{
		{HasPeer: true, Root: setup.Root, Peer: public, Skip: setup.Skip, Room: setup.Room},
		{HasOwn: true, Root: setup.Root, Priv: setup.Priv, Pub: public, Skip: setup.Skip, Room: setup.Room},
	}
}

// setups are valid ones, at the edges too.
func setups() []api.Setup {
	list := []api.Setup{setupOf(3, 5, 12), {Region: 8}, setupOf(0, 0, 8), setupOf(1000, 1000, 4096), setupOf(0, 1000, 9), setupOf(1000, 0, 4095)}
	for _, priv := range []api.Key{{}, {1}, {9}, {31: 0xff}, noiseKey(3)} {
		list = append(list, api.Setup{Root: api.Key{31: 1}, Priv: priv, Skip: 1, Room: 999, Region: 10})
	}
	return list
}

func TestCreate(t *testing.T) {
	for _, setup := range setups() {
		for party, s := range firstStates(setup) {
			image := session.Create(setup, party)
			sameBytes(t, "Create", image, laid(setup.Region, record(1, wire.EncodeState(s)), nil))
			checkPeek(t, "Create", image, api.Seen{Seq: 1, State: s})
			spoil(image)
			checkPeek(t, "Create once more", session.Create(setup, party), api.Seen{Seq: 1, State: s})
		}
	}
}

// The states of Create are those of Begin.
func TestCreateBegins(t *testing.T) {
	setup := setupOf(7, 8, 20)
	public := prim.X25519(setup.Priv, api.Key{9})
	for party, key := range []api.Key{public, setup.Priv} {
		s := machine.Begin(party, setup.Root, key, setup.Skip, setup.Room)
		checkPeek(t, "Begin", session.Create(setup, party), api.Seen{Seq: 1, State: s})
	}
}

// The pair of RFC 7748, chapter 6.1: Bob's private key and public key.
func TestCreatedKeys(t *testing.T) {
	priv, _ := hex.DecodeString("5dab087e624a8a4b79e17f8b83800ee66f3bb1292618b6fd1c2f8b27ff88e0eb")
	setup := api.Setup{Priv: api.Key(priv), Region: 8}
	const public = "de9edb7d7b7dc1b4d35b61c2ece435373f8343c85b78674dadfc7e146f882b4f"
	zero, one := session.Peek(session.Create(setup, 0)).State, session.Peek(session.Create(setup, 1)).State
	for _, key := range []api.Key{zero.Peer, one.Pub} {
		if hex.EncodeToString(key[:]) != public {
			t.Errorf("the public key is %x", key)
		}
	}
	if zero.HasOwn || one.HasPeer || one.Priv != setup.Priv || zero.Priv != (api.Key{}) {
		t.Error("the parties have other keys than their own")
	}
}

// outside are setups that pass a limit, most of them by one.
func outside() []api.Setup {
	var list []api.Setup
	for _, x := range []int{-1, 1001, 1 << 32, 1<<32 + 3, math.MinInt, math.MaxInt} {
		list = append(list, setupOf(x, 5, 12), setupOf(3, x, 12), setupOf(x, x, 8))
	}
	for _, region := range []int{math.MinInt, -8, -1, 0, 1, 7, 4097, 1 << 32, 1<<32 + 8, math.MaxInt} {
		list = append(list, setupOf(3, 5, region))
	}
	return list
}

func TestSetupsThatAreNotValid(t *testing.T) {
	step := api.Step{Op: api.OpSend}
	for _, setup := range outside() {
		for party := range 2 {
			if image := session.Create(setup, party); len(image) != 0 {
				t.Errorf("%v: %d bytes", setup, len(image))
			}
		}
		for _, steps := range [][]api.Step{nil, {step}, make([]api.Step, 2001)} {
			checkNothing(t, session.Run(setup, steps))
		}
	}
}

// checkNothing asks for Bad and nothing else.
func checkNothing(t *testing.T, trace api.Trace) {
	t.Helper()
	if trace.Code != api.Bad || len(trace.Answers) != 0 || len(trace.Disks) != 0 {
		t.Errorf("code %d, %d answers, %d disks", trace.Code, len(trace.Answers), len(trace.Disks))
	}
}

func TestOtherParties(t *testing.T) {
	for _, party := range []int{-1, 2, 3, 256, 1 << 32, 1<<32 + 1, math.MinInt, math.MaxInt} {
		if image := session.Create(setupOf(3, 5, 12), party); len(image) != 0 {
			t.Errorf("party %s: %d bytes", strconv.Itoa(party), len(image))
		}
	}
}
