package session_test

import (
	"bytes"
	"encoding/binary"
	"slices"
	"testing"

	"ratchet/api"
	"ratchet/session"
)

type position struct {
	party    int
	epoch, n uint32
}

// checkPositions is P4: no position of a party is used twice for a released
// frame, nor for a released message; a frame carries its number, and frames of
// one epoch one public key.
func checkPositions(t *testing.T, what string, steps []api.Step, answers []api.Answer) {
	t.Helper()
	sent, opened, pubs := map[position]int{}, map[position]int{}, map[position]api.Key{}
	for i, a := range answers {
		at := position{steps[i].Party, a.Epoch, a.N}
		switch {
		case a.Code != api.OK:
		case steps[i].Op == api.OpSend:
			sent[at]++
			if n := binary.BigEndian.Uint32(a.Out[37:]); n != a.N {
				t.Errorf("%s: step %d: the frame carries %d, the answer %d", what, i, n, a.N)
			}
			chain := position{party: at.party, epoch: at.epoch}
			if pub, ok := pubs[chain]; ok && pub != api.Key(a.Out[1:33]) {
				t.Errorf("%s: step %d: another key in epoch %d", what, i, a.Epoch)
			}
			pubs[chain] = api.Key(a.Out[1:33])
		case steps[i].Op == api.OpDeliver || steps[i].Op == api.OpRelay:
			opened[at]++
		}
		if sent[at] > 1 || opened[at] > 1 {
			t.Errorf("%s: step %d: the position (%d, %d) once more", what, i, a.Epoch, a.N)
		}
	}
}

// refusals are what may come of a frame that was relayed as it was sent.
var refusals = []int{api.SkipLimit, api.StoreFull, api.Counter, api.DiskFull, api.Dirty, api.PowerCut}

func took(code int) bool { return code == api.OK || code == api.PowerCut }

// checkUnderstood is P5. It answers how many messages were opened, as long as
// nothing else was taken for one.
func checkUnderstood(t *testing.T, what string, p *player) int {
	t.Helper()
	opened, taken := 0, map[int]bool{}
	for i, step := range p.steps {
		if step.Op != api.OpDeliver && step.Op != api.OpRelay {
			continue
		}
		a := p.trace.Answers[i]
		if !p.relaysAsSent(step) {
			if took(a.Code) {
				return opened
			}
			continue
		}
		if a.Code == api.OK && !taken[step.Ref] {
			opened++
			sent := p.trace.Answers[step.Ref]
			checkAnswer(t, what+": step "+itoa(i), a, api.Answer{Out: p.steps[step.Ref].Data, Epoch: sent.Epoch, N: sent.N})
		} else if !taken[step.Ref] && !slices.Contains(refusals, a.Code) {
			t.Errorf("%s: step %d: code %d of a frame that was never taken", what, i, a.Code)
		}
		taken[step.Ref] = taken[step.Ref] || took(a.Code)
	}
	return opened
}

// relaysAsSent says whether the step hands a released frame unaltered to the
// other party.
func (p *player) relaysAsSent(step api.Step) bool {
	f := p.frame(step.Ref)
	return step.Op == api.OpRelay && f != nil && p.steps[step.Ref].Party != step.Party && bytes.Equal(f, p.relayed(step))
}

// P4 and P5 under loss, repetition, reordering, forgeries and power cuts.
func TestPositionsAndMessages(t *testing.T) {
	t.Parallel()
	opened := 0
	for seed := range uint64(80) {
		w := newWriter(randomSetup(newDice(seed+3000)), seed+500)
		w.cuts, w.forging = seed%4 > 0, seed%2 > 0
		p := w.write(150)
		p.trace.Answers = session.Run(p.setup, p.steps).Answers
		checkPositions(t, "script "+itoa(int(seed)), p.steps, p.trace.Answers)
		opened += checkUnderstood(t, "script "+itoa(int(seed)), p)
	}
	if opened < 500 {
		t.Errorf("%d messages opened: the scripts ask too little", opened)
	}
}

// With limits that are never met, and no power cuts, each released frame is
// opened, whatever else comes between.
func TestEveryMessageIsOpened(t *testing.T) {
	t.Parallel()
	for seed := range uint64(12) {
		w := newWriter(setupOf(200, 400, 600), seed+700)
		for len(w.steps) < 120 {
			party := w.IntN(2)
			if w.IntN(2) == 0 {
				w.send(party)
			} else if len(w.waiting[party]) > 0 {
				w.openOne(t, party)
			}
		}
		for party := range 2 {
			for len(w.waiting[party]) > 0 {
				w.openOne(t, party)
			}
		}
		w.checkRun(t, "every message")
		checkPositions(t, "every message", w.steps, w.trace.Answers)
	}
}

// openOne relays a frame that waits, and asks for its message. Ahead of it the
// frame comes altered, and to its own sender; behind it, once more.
func (w *writer) openOne(t *testing.T, party int) {
	t.Helper()
	list := w.waiting[party]
	i := w.IntN(len(list))
	ref := list[i]
	for _, forged := range []api.Step{
		flipped(relayStep(party, ref), w.IntN(77), 1<<w.IntN(8)), relayStep(1-party, ref),
	} {
		if a := w.do(forged); took(a.Code) {
			t.Errorf("step %d: a forged frame is taken, code %d", len(w.steps)-1, a.Code)
		}
	}
	sent := w.trace.Answers[ref]
	checkAnswer(t, "step "+itoa(len(w.steps)), w.do(relayStep(party, ref)), api.Answer{Out: w.steps[ref].Data, Epoch: sent.Epoch, N: sent.N})
	if a := w.do(relayStep(party, ref)); took(a.Code) {
		t.Errorf("step %d: a frame is taken twice, code %d", len(w.steps)-1, a.Code)
	}
	w.waiting[party] = slices.Delete(list, i, i+1)
}

// P4: in a row of sends, each followed by a Recover, a number is the count of
// the sends whose commit sector was written whole. A record of the initiator's
// first chain has four sectors of payload: the fifth write is the commit
// sector's, behind the log and in the other region alike.
func TestRowsOfSends(t *testing.T) {
	for seed := range uint64(40) {
		dice := newDice(seed + 900)
		var steps []api.Step
		var counts []uint32
		count := uint32(0)
		for i := range 60 {
			crash := api.Crash{At: dice.IntN(14) - 1, Cut: []int{0, 1, 63, 64, 65}[dice.IntN(5)]}
			for range dice.IntN(10) {
				crash.Keep = append(crash.Keep, dice.IntN(2) == 0)
			}
			step := sendStep(0, "message "+itoa(i), seed<<8+uint64(i))
			step.Crash = crash
			again := cutOff(stepOf(api.OpRecover, 0), dice.IntN(6), dice.IntN(65), true)
			steps = append(steps, step, again, stepOf(api.OpRecover, 0))
			counts = append(counts, count)
			if crash.At < 1 || crash.At > 5 || crash.At == 5 && crash.Cut >= 64 {
				count++
			}
		}
		trace := session.Run(setupOf(3, 5, 8+int(seed)), steps)
		checkCounts(t, trace.Answers, counts)
		checkPositions(t, "a row of sends", steps, trace.Answers)
		if seen := session.Peek(trace.Disks[0]); seen.State.Ns != count {
			t.Errorf("%d messages sent, want %d", seen.State.Ns, count)
		}
	}
}

// checkCounts asks of each first of three steps for its number.
func checkCounts(t *testing.T, answers []api.Answer, counts []uint32) {
	t.Helper()
	released := 0
	for i, want := range counts {
		a := answers[3*i]
		if a.Code == api.OK {
			released++
			checkAnswer(t, "send "+itoa(i), a, api.Answer{Out: a.Out, Epoch: 1, N: want})
		} else {
			checkAnswer(t, "send "+itoa(i), a, api.Answer{Code: api.PowerCut})
		}
		checkCode(t, "Recover", answers[3*i+2].Code, api.OK)
	}
	if released < 5 {
		t.Errorf("%d frames released", released)
	}
}
