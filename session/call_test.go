package session_test

import (
	"bytes"
	"slices"
	"testing"

	"ratchet/api"
	"ratchet/journal"
	"ratchet/machine"
	"ratchet/session"
	"ratchet/wire"
)

// The model is chapter 7 once more, on the calls of the packages below, which
// have models of their own in their tests.

func modelPeek(image []byte) api.Seen {
	log := journal.Mount(image)
	s, ok := wire.DecodeState(log.Payload)
	switch {
	case log.Code != api.OK:
		return api.Seen{Code: log.Code}
	case !ok:
		return api.Seen{Code: api.Bad}
	}
	return api.Seen{Seq: log.Seq, State: s}
}

// A call is one of the calls that change an endpoint's disk.
type call struct {
	name  string
	list  []byte
	do    func(image, list []byte, crash api.Crash) api.Outcome
	model func(image, list []byte, crash api.Crash) api.Outcome
}

// modelOf journals what a turn of the machine leads to.
func modelOf(turn func(s api.State, list []byte) api.Turn) func(image, list []byte, crash api.Crash) api.Outcome {
	return func(image, list []byte, crash api.Crash) api.Outcome {
		seen := modelPeek(image)
		if seen.Code != api.OK {
			return api.Outcome{Code: seen.Code, Image: image}
		}
		got := turn(seen.State, list)
		if got.Code != api.OK {
			return api.Outcome{Code: got.Code, Image: image}
		}
		w := journal.Append(image, wire.EncodeState(got.State), crash)
		if w.Code != api.OK {
			return api.Outcome{Code: w.Code, Image: w.Image}
		}
		return api.Outcome{Image: w.Image, Out: got.Out, Epoch: got.Epoch, N: got.N}
	}
}

func sending(plain []byte, seed api.Key) call {
	do := func(image, list []byte, crash api.Crash) api.Outcome { return session.Send(image, list, seed, crash) }
	turn := func(s api.State, list []byte) api.Turn { return machine.Encrypt(s, list, seed) }
	return call{"Send", plain, do, modelOf(turn)}
}

func delivering(frame []byte) call {
	return call{"Deliver", frame, session.Deliver, modelOf(machine.Decrypt)}
}

// bare is a call that the journal answers; it releases nothing.
func bare(name string, do func(image []byte, crash api.Crash) api.Wrote) call {
	both := func(image, _ []byte, crash api.Crash) api.Outcome {
		w := do(image, crash)
		return api.Outcome{Code: w.Code, Image: w.Image}
	}
	return call{name, nil, both, both}
}

func compacting() call { return bare("Compact", journal.Compact) }

func recovering() call { return bare("Recover", journal.Recover) }

// run makes the call on guarded lists and holds it against the model. It asks
// that the lists and the memory behind them are left alone, by the call and by
// writes into its answer, that a spoilt answer does not come back, and that a
// refused call releases and changes nothing (P6, P16).
func (c call) run(t *testing.T, image []byte, crash api.Crash) api.Outcome {
	t.Helper()
	want := c.model(image, c.list, crash)
	given, list, plan := guarded(image, 0xa5), guarded(c.list, 0x5a), crash
	plan.Keep = guarded(crash.Keep, true)
	left := [][]byte{slices.Clone(whole(given)), slices.Clone(whole(list))}
	keep := slices.Clone(whole(plan.Keep))
	unchanged := func(when string) {
		t.Helper()
		if !bytes.Equal(whole(given), left[0]) || !bytes.Equal(whole(list), left[1]) || !slices.Equal(whole(plan.Keep), keep) {
			t.Errorf("%s: an argument, or the memory behind it, is changed by %s", c.name, when)
		}
	}
	first := c.do(given, list, plan)
	unchanged("the call")
	c.same(t, "", first, want)
	checkApart(t, c.name, [][]byte{first.Image, first.Out})
	spoil(first.Image)
	spoil(first.Out)
	unchanged("a write into the answer")
	again := c.do(given, list, plan)
	spoil(given)
	spoil(list)
	clear(whole(plan.Keep))
	c.same(t, " once more", again, want)
	c.checkReleased(t, again, image)
	return again
}

func (c call) same(t *testing.T, when string, got, want api.Outcome) {
	t.Helper()
	checkAnswer(t, c.name+when, answerOf(got), answerOf(want))
	sameBytes(t, c.name+when, got.Image, want.Image)
}

// checkReleased asks that nothing is released with any code but OK, and that
// the image comes back as it was with any code but OK and PowerCut.
func (c call) checkReleased(t *testing.T, o api.Outcome, image []byte) {
	t.Helper()
	if o.Code != api.OK && (len(o.Out) != 0 || o.Epoch != 0 || o.N != 0) {
		t.Errorf("%s: code %d, but %d bytes, position (%d, %d)", c.name, o.Code, len(o.Out), o.Epoch, o.N)
	}
	if o.Code != api.OK && o.Code != api.PowerCut {
		sameBytes(t, c.name+", refused", o.Image, image)
	}
}

// ok makes the call without a power cut and asks that it is not refused.
func (c call) ok(t *testing.T, image []byte) api.Outcome {
	t.Helper()
	o := c.run(t, image, api.Crash{})
	checkCode(t, c.name, o.Code, api.OK)
	return o
}

// refused asks for a code, with power cuts that do not come to strike too.
func (c call) refused(t *testing.T, what string, image []byte, code int) {
	t.Helper()
	for _, crash := range []api.Crash{{}, {At: 1, Cut: 64}, {At: 2, Keep: []bool{true}, Cut: 5}} {
		checkCode(t, what+": "+c.name, c.run(t, image, crash).Code, code)
	}
}

// checkPeek holds Peek against want, and asks that the image and the memory
// behind it are left alone, by the call and by a write into its answer.
func checkPeek(t *testing.T, what string, image []byte, want api.Seen) {
	t.Helper()
	image = guarded(image, 0xa5)
	given := slices.Clone(whole(image))
	first := session.Peek(image)
	sameBytes(t, what+": the image behind Peek", whole(image), given)
	if !sameSeen(first, want) {
		t.Errorf("%s: Peek: code %d, number %d; want code %d, number %d; same state: %v", what,
			first.Code, first.Seq, want.Code, want.Seq, sameState(first.State, want.State))
	}
	clear(whole(first.State.Store))
	sameBytes(t, what+": the image behind a write into Peek's answer", whole(image), given)
	again := session.Peek(image)
	spoil(image)
	if !sameSeen(again, want) {
		t.Errorf("%s: Peek once more: code %d, want %d", what, again.Code, want.Code)
	}
}
