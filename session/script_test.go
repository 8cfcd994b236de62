package session_test

import (
	"math"
	"strconv"
	"sync"
	"testing"

	"ratchet/api"
	"ratchet/session"
)

func itoa(i int) string { return strconv.Itoa(i) }

func sendStep(party int, text string, seed uint64) api.Step {
	return api.Step{Op: api.OpSend, Party: party, Data: []byte(text), Seed: noiseKey(seed)}
}

func relayStep(party, ref int) api.Step {
	return api.Step{Op: api.OpRelay, Party: party, Ref: ref}
}

func flipped(step api.Step, flip int, mask byte) api.Step {
	step.Flip, step.Mask = flip, mask
	return step
}

func cutOff(step api.Step, at, cut int, keep ...bool) api.Step {
	step.Crash = api.Crash{At: at, Cut: cut, Keep: keep}
	return step
}

func stepOf(op, party int) api.Step { return api.Step{Op: op, Party: party} }

// A line is a step and what it answers; with sends the text is not asked.
type line struct {
	step     api.Step
	code     int
	text     string
	epoch, n uint32
}

// checkLines runs a script, asks for its answers, and holds it against the
// single calls.
func checkLines(t *testing.T, setup api.Setup, lines []line) api.Trace {
	t.Helper()
	var steps []api.Step
	for _, l := range lines {
		steps = append(steps, l.step)
	}
	play(setup, steps).checkRun(t, "the single calls")
	trace := session.Run(setup, steps)
	for i, l := range lines {
		want := api.Answer{Code: l.code, Out: []byte(l.text), Epoch: l.epoch, N: l.n}
		if l.step.Op == api.OpSend && l.code == api.OK {
			want.Out = trace.Answers[i].Out
		}
		checkAnswer(t, "step "+itoa(i), trace.Answers[i], want)
	}
	return trace
}

func TestConversation(t *testing.T) {
	checkLines(t, setupOf(3, 5, 12), []line{
		{step: sendStep(1, "too early", 1), code: api.NotReady},
		{step: relayStep(0, 0), code: api.Malformed},
		{step: sendStep(0, "one", 2), epoch: 1},
		{step: sendStep(0, "two", 3), epoch: 1, n: 1},
		{step: sendStep(0, "", 4), epoch: 1, n: 2},
		{step: relayStep(1, 3), text: "two", epoch: 1, n: 1},
		{step: relayStep(1, 3), code: api.Old},
		{step: relayStep(1, 4), epoch: 1, n: 2},
		{step: sendStep(1, "back", 5), epoch: 1},
		{step: relayStep(1, 8), code: api.BadTag},
		{step: relayStep(0, 2), code: api.BadTag},
		{step: relayStep(0, 8), text: "back", epoch: 1},
		{step: sendStep(0, "three", 6), epoch: 2},
		{step: flipped(relayStep(1, 12), 0, 1), code: api.Malformed},
		{step: flipped(relayStep(1, 12), 1, 1), code: api.BadTag},
		{step: flipped(relayStep(1, 12), 40, 4), code: api.SkipLimit},
		{step: flipped(relayStep(1, 12), 36, 7), code: api.BadTag},
		{step: relayStep(1, 12), text: "three", epoch: 2},
		{step: relayStep(1, 2), text: "one", epoch: 1},
		{step: relayStep(1, 2), code: api.BadTag},
	})
}

// Which frames a relay finds.
func TestRelays(t *testing.T) {
	lines := []line{
		{step: relayStep(1, 1), code: api.Malformed}, // a later step
		{step: sendStep(0, "one", 2), epoch: 1},
		{step: cutOff(sendStep(0, "lost", 3), 5, 64), code: api.PowerCut}, // whole, but not released
		{step: relayStep(1, 2), code: api.Malformed},
		{step: relayStep(1, 4), code: api.Malformed}, // this step
		{step: sendStep(0, string(make([]byte, 65537)), 3), code: api.TooLong},
		{step: relayStep(1, 5), code: api.Malformed},
		{step: stepOf(api.OpCompact, 0)},
		{step: relayStep(1, 7), code: api.Malformed},
		{step: stepOf(api.OpRecover, 0)},
		{step: relayStep(1, 9), code: api.Malformed},
		{step: stepOf(6, 0), code: api.Bad},
		{step: relayStep(1, 11), code: api.Malformed},
		{step: sendStep(2, "nobody's", 4), code: api.Bad},
		{step: relayStep(1, 13), code: api.Malformed},
		{step: relayStep(1, 1), text: "one", epoch: 1},
		{step: relayStep(1, 15), code: api.Malformed}, // a relay, whose answer is OK and has bytes
		{step: relayStep(1, 1), code: api.Old},
		{step: relayStep(0, 1), code: api.BadTag},
	}
	for _, ref := range []int{-1, -2, math.MinInt, math.MaxInt, 1 << 32, 1<<32 + 1, 19, 20, 30, 99} {
		lines = append(lines, line{step: relayStep(1, ref), code: api.Malformed})
	}
	checkLines(t, setupOf(3, 5, 20), lines)
}

// A message may be a frame itself. Who has opened it has not released it as
// one.
func TestRelayOfADelivery(t *testing.T) {
	inner := sendStep(0, "inner", 2)
	outer := sendStep(0, "", 3)
	outer.Data = session.Run(setupOf(3, 5, 20), []api.Step{inner}).Answers[0].Out
	checkLines(t, setupOf(3, 5, 20), []line{
		{step: inner, epoch: 1},
		{step: outer, epoch: 1, n: 1},
		{step: relayStep(1, 1), text: string(outer.Data), epoch: 1, n: 1},
		{step: relayStep(1, 2), code: api.Malformed},
		{step: api.Step{Op: api.OpDeliver, Party: 1, Data: outer.Data}, text: "inner", epoch: 1},
	})
}

// What a Flip and a Mask do to a frame of 80 bytes.
func TestFlips(t *testing.T) {
	one := line{step: sendStep(0, "one", 2), epoch: 1}
	opened := line{text: "one", epoch: 1}
	for _, flip := range []int{-1, -80, math.MinInt, 80, 81, 1 << 20, 1 << 32, math.MaxInt} {
		opened.step = flipped(relayStep(1, 0), flip, 0xff)
		checkLines(t, setupOf(3, 5, 12), []line{one, opened})
	}
	for flip := range 80 {
		opened.step = flipped(relayStep(1, 0), flip, 0)
		altered := line{step: flipped(relayStep(1, 0), flip, 0x80), code: api.BadTag}
		switch {
		case flip == 0 || flip >= 41 && flip < 45:
			altered.code = api.Malformed
		case flip >= 37 && flip < 41:
			altered.code = api.SkipLimit
		}
		// The frame itself stays as it was.
		checkLines(t, setupOf(3, 5, 12), []line{one, altered, altered, opened})
	}
}

// A step without sense answers Bad, and nothing happens.
func TestStepsWithoutSense(t *testing.T) {
	full := cutOff(flipped(sendStep(0, "text", 1), 3, 4), 1, 64, true)
	one := line{step: sendStep(0, "one", 2), epoch: 1}
	for _, x := range []int{math.MinInt, -1, 2, 6, 7, 255, 256, 257, 1 << 32, 1<<32 + 1, math.MaxInt} {
		var lines []line
		for op := range 7 {
			full.Op, full.Party = op, x
			lines = append(lines, line{step: full, code: api.Bad})
		}
		for party := range 2 {
			full.Op, full.Party = x, party
			if x != 2 {
				lines = append(lines, line{step: full, code: api.Bad})
			}
		}
		full.Op, full.Party = 0, 0
		lines = append(lines, line{step: full, code: api.Bad}, one, line{step: relayStep(1, len(lines)+1), text: "one", epoch: 1})
		checkLines(t, setupOf(3, 5, 12), lines)
	}
}

// Fields that a step's Op does not name are not looked at.
func TestFieldsThatAreNotNamed(t *testing.T) {
	filled := func(step api.Step, op int) api.Step {
		rest := flipped(sendStep(step.Party, "other", 9), 50, 1)
		rest.Op, rest.Ref = op, 1
		switch op {
		case api.OpSend:
			rest.Data, rest.Seed = step.Data, step.Seed
		case api.OpDeliver:
			rest.Data = step.Data
		case api.OpRelay:
			rest.Ref, rest.Flip, rest.Mask = step.Ref, step.Flip, step.Mask
		}
		rest.Crash = step.Crash
		return rest
	}
	plain := []api.Step{
		sendStep(0, "one", 2), sendStep(0, "two", 3), relayStep(1, 1), {Op: api.OpDeliver, Party: 1, Data: []byte("none")},
		stepOf(api.OpCompact, 0), stepOf(api.OpRecover, 1), sendStep(1, "back", 4), relayStep(0, 6), sendStep(0, "three", 5),
	}
	var rest []api.Step
	for _, step := range plain {
		rest = append(rest, filled(step, step.Op))
	}
	checkTrace(t, "other fields filled", runGuarded(t, setupOf(3, 5, 12), rest), session.Run(setupOf(3, 5, 12), plain))
}

// A relay of nothing does not fall back on its Data, nor a delivery on its Ref.
func TestRelayDoesNotLookAtData(t *testing.T) {
	sent := session.Run(setupOf(3, 5, 12), []api.Step{sendStep(0, "one", 2)}).Answers[0].Out
	relay := relayStep(1, 7)
	relay.Data = sent
	deliver := api.Step{Op: api.OpDeliver, Party: 1, Data: sent, Ref: 0, Flip: 50, Mask: 1}
	checkLines(t, setupOf(3, 5, 12), []line{
		{step: relay, code: api.Malformed}, {step: deliver, text: "one", epoch: 1},
	})
}

func TestLengthOfScripts(t *testing.T) {
	for _, setup := range setups() {
		trace := session.Run(setup, nil)
		checkTrace(t, "no step", trace, newPlayer(setup).trace)
		checkApart(t, "no step", lists(trace))
		checkTrace(t, "no step", session.Run(setup, []api.Step{}), newPlayer(setup).trace)
	}
	setup := setupOf(3, 5, 8)
	var steps []api.Step
	for i := range 2000 {
		steps = append(steps, sendStep(0, itoa(i), 5))
	}
	trace := session.Run(setup, steps)
	checkTrace(t, "2000 steps", trace, play(setup, steps).trace)
	if last := trace.Answers[1999]; last.Code != api.OK || last.N != 1999 {
		t.Errorf("the last step: code %d, number %d", last.Code, last.N)
	}
	checkNothing(t, session.Run(setup, append(steps, api.Step{})))
	checkNothing(t, session.Run(setup, append(steps, steps...)))
}

// P1: scripts of all kinds give what the single calls give.
func TestScriptsAndSingleCalls(t *testing.T) {
	t.Parallel()
	codes := map[int]int{}
	for seed := range uint64(60) {
		w := newWriter(randomSetup(newDice(seed+1000)), seed)
		w.cuts, w.forging = seed%3 > 0, seed%2 > 0
		p := w.write(150)
		p.checkRun(t, "script "+itoa(int(seed)))
		for _, a := range p.trace.Answers {
			codes[a.Code]++
		}
	}
	for _, code := range []int{api.OK, api.Malformed, api.BadTag, api.SkipLimit, api.StoreFull, api.Counter, api.DiskFull, api.Old, api.NotReady, api.Dirty, api.PowerCut} {
		if codes[code] < 10 {
			t.Errorf("code %d came up %d times: the scripts ask too little", code, codes[code])
		}
	}
}

// P1 at the greatest region, and with a store of many keys.
func TestScriptsOnGreatDisks(t *testing.T) {
	t.Parallel()
	for seed, setup := range []api.Setup{setupOf(1000, 1000, 4096), setupOf(40, 60, 100), setupOf(1000, 1000, 500)} {
		w := newWriter(setup, uint64(seed))
		w.cuts, w.forging = true, true
		w.write(40)
		for range 60 {
			w.send(0)
		}
		w.do(api.Step{Op: api.OpRecover, Party: 1})
		w.do(api.Step{Op: api.OpRelay, Party: 1, Ref: w.waiting[1][len(w.waiting[1])-1]})
		w.write(150).checkRun(t, "a great disk")
	}
}

// P16: the lists of a trace lie apart from each other.
func TestListsOfATrace(t *testing.T) {
	for seed := range uint64(4) {
		w := newWriter(setupOf(3, 9, 13), seed)
		w.cuts, w.forging = seed%2 == 0, true
		p := w.write(120)
		trace := session.Run(p.setup, p.steps)
		checkApart(t, "a trace", lists(trace))
		for i := range whole(trace.Disks) {
			whole(trace.Disks)[i] = nil
		}
		clear(whole(trace.Answers))
		checkTrace(t, "once more", session.Run(p.setup, p.steps), p.trace)
	}
}

// What Run answers hangs on its script alone, whatever ran before it or runs
// at the same time.
func TestNothingIsKept(t *testing.T) {
	var players [6]*player
	for i := range players {
		w := newWriter(randomSetup(newDice(uint64(i))), uint64(i+50))
		w.cuts, w.forging = true, true
		players[i] = w.write(80)
	}
	var traces [6]api.Trace
	var group sync.WaitGroup
	for i, p := range players {
		group.Go(func() { traces[i] = session.Run(p.setup, p.steps) })
	}
	group.Wait()
	for i, p := range players {
		checkTrace(t, "at the same time", traces[i], p.trace)
		checkTrace(t, "once more", session.Run(p.setup, p.steps), p.trace)
	}
}
