package session_test

import (
	"slices"
	"testing"

	"ratchet/api"
	"ratchet/session"
)

// talked is a script in which both parties have sent; the frame of step 4
// waits for party 0, that of step 2 for party 1.
func talked() []api.Step {
	return []api.Step{
		sendStep(0, "a", 1), relayStep(1, 0), sendStep(0, "b", 2), sendStep(1, "c", 3), sendStep(1, "d", 4), relayStep(0, 3),
	}
}

// probes are one step of each kind but OpRecover.
func probes(party int) []api.Step {
	ref := 4 - 2*party
	return []api.Step{
		sendStep(party, "probe", 5), relayStep(party, ref), {Op: api.OpDeliver, Party: party, Data: []byte("no frame")}, stepOf(api.OpCompact, party),
	}
}

// doProbes asks that every probe is refused with Dirty, or none.
func (p *player) doProbes(t *testing.T, party int) (dirty bool) {
	t.Helper()
	dirty = session.Peek(p.trace.Disks[party]).Code == api.Dirty
	for _, probe := range probes(party) {
		if a := p.do(probe); (a.Code == api.Dirty) != dirty {
			t.Errorf("Op %d: code %d, dirty %v", probe.Op, a.Code, dirty)
		}
	}
	return dirty
}

// Behind a power cut a party whose disk is not clean answers Dirty until a
// Recover has ended with OK; one whose disk is clean goes on, and so does the
// other party.
func TestRestarts(t *testing.T) {
	t.Parallel()
	stands := map[bool]int{}
	for party := range 2 {
		for _, step := range append(probes(party)[:2], stepOf(api.OpCompact, party)) {
			for _, crash := range plans(11, []int{0, 63, 64}) {
				p := play(setupOf(3, 5, 13), talked())
				step.Crash = crash
				if p.do(step).Code == api.PowerCut {
					stands[restart(t, p, party)]++
				}
			}
		}
	}
	if stands[true] < 100 || stands[false] < 20 {
		t.Errorf("dirty and clean disks: %v", stands)
	}
}

// restart goes on behind a power cut, and says whether it has left the disk
// dirty.
func restart(t *testing.T, p *player, party int) bool {
	t.Helper()
	dirty := p.doProbes(t, party)
	p.do(cutOff(stepOf(api.OpRecover, party), 1, 30))
	p.doProbes(t, party)
	if a := p.do(sendStep(1-party, "the other", 6)); a.Code != api.OK {
		t.Errorf("the other party: code %d", a.Code)
	}
	if a := p.do(stepOf(api.OpRecover, party)); !sameAnswer(a, api.Answer{}) {
		t.Errorf("Recover: code %d, %d bytes", a.Code, len(a.Out))
	}
	if p.doProbes(t, party) {
		t.Error("dirty behind a Recover")
	}
	p.checkRun(t, "restart")
	return dirty
}

// The initiator's record has four sectors of payload. In a region of 20
// sectors three of them follow the first one's.
func TestWhatAPowerCutLeavesInAScript(t *testing.T) {
	one, lost, next := sendStep(0, "one", 1), sendStep(0, "lost", 2), sendStep(0, "next", 3)
	for at := 1; at <= 5; at++ {
		for _, cut := range []int{-5, 0, 63, 64, 99} {
			for _, keep := range [][]bool{nil, {true}, {false, true, false, true}, {true, true, true, true, true}} {
				whole := at == 5 && cut >= 64
				// Ahead of the commit sector's write the others are flushed.
				clean := whole || at < 5 && cut <= 0 && !slices.Contains(keep[:min(at-1, len(keep))], true)
				n := uint32(1)
				if whole {
					n = 2
				}
				lines := []line{{step: one, epoch: 1}, {step: cutOff(lost, at, cut, keep...), code: api.PowerCut}}
				if clean {
					lines = append(lines, line{step: next, epoch: 1, n: n})
					n++
				} else {
					lines = append(lines, line{step: next, code: api.Dirty}, line{step: stepOf(api.OpRecover, 0)})
				}
				lines = append(lines, line{step: next, epoch: 1, n: n}, line{step: relayStep(1, 1), code: api.Malformed})
				lines = append(lines, line{step: relayStep(1, len(lines)-2), text: "next", epoch: 1, n: n})
				checkLines(t, setupOf(5, 5, 20), lines)
			}
		}
	}
}
