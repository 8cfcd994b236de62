package session_test

import (
	"testing"

	"ratchet/api"
	"ratchet/machine"
	"ratchet/prim"
	"ratchet/session"
	"ratchet/wire"
)

// A memory is two machines without disks. Of the disks it knows the size of a
// region alone.
type memory struct {
	region  int
	states  [2]api.State
	records [2]uint64
	frames  [][]byte // what each step has released, if it was a send
}

func newMemory(setup api.Setup) *memory {
	public := prim.X25519(setup.Priv, api.Key{9})
	return &memory{region: setup.Region, records: [2]uint64{1, 1}, states: [2]api.State{
		machine.Begin(api.Initiator, setup.Root, public, setup.Skip, setup.Room),
		machine.Begin(api.Responder, setup.Root, setup.Priv, setup.Skip, setup.Room),
	}}
}

// do answers a step of a script that has no power cuts and only frames that
// are relayed as they are.
func (m *memory) do(step api.Step) api.Answer {
	answer := m.answer(step)
	if step.Op != api.OpSend {
		m.frames = append(m.frames, nil)
	} else {
		m.frames = append(m.frames, answer.Out)
	}
	return answer
}

func (m *memory) answer(step api.Step) api.Answer {
	s := m.states[step.Party]
	switch step.Op {
	case api.OpSend:
		return m.take(step.Party, machine.Encrypt(s, step.Data, step.Seed))
	case api.OpDeliver:
		return m.take(step.Party, machine.Decrypt(s, step.Data))
	case api.OpRelay:
		return m.take(step.Party, machine.Decrypt(s, m.relayed(step)))
	case api.OpCompact:
		m.records[step.Party]++
	}
	return api.Answer{}
}

func (m *memory) relayed(step api.Step) []byte {
	if step.Ref < 0 || step.Ref >= len(m.frames) {
		return nil
	}
	if f := m.frames[step.Ref]; step.Mask != 0 && step.Flip < len(f) {
		f = append([]byte(nil), f...)
		f[step.Flip] ^= step.Mask
		return f
	}
	return m.frames[step.Ref]
}

func (m *memory) take(party int, turn api.Turn) api.Answer {
	if turn.Code == api.OK && need(wire.EncodeState(turn.State)) > m.region {
		return api.Answer{Code: api.DiskFull}
	}
	if turn.Code == api.OK {
		m.states[party] = turn.State
		m.records[party]++
	}
	return api.Answer{Code: turn.Code, Out: turn.Out, Epoch: turn.Epoch, N: turn.N}
}

func (m *memory) checkDisks(t *testing.T, what string, disks [][]byte) {
	t.Helper()
	for party, disk := range disks {
		if got := session.Peek(disk); !sameSeen(got, api.Seen{Seq: m.records[party], State: m.states[party]}) {
			t.Errorf("%s: party %d: code %d, number %d (want %d), same state: %v", what, party,
				got.Code, got.Seq, m.records[party], sameState(got.State, m.states[party]))
		}
	}
}

// checkMemory holds each step of a script, and the disks behind it, against
// the machines in memory (P2).
func checkMemory(t *testing.T, what string, p *player, codes map[int]int) {
	t.Helper()
	m, again := newMemory(p.setup), newPlayer(p.setup)
	trace := session.Run(p.setup, p.steps)
	for i, step := range p.steps {
		want := m.do(step)
		codes[want.Code]++
		checkAnswer(t, what+": step "+itoa(i), trace.Answers[i], want)
		checkAnswer(t, what+": single step "+itoa(i), again.do(step), want)
		m.checkDisks(t, what+": behind step "+itoa(i), again.trace.Disks)
	}
	m.checkDisks(t, what, trace.Disks)
}

func TestScriptsAndMachinesInMemory(t *testing.T) {
	t.Parallel()
	codes := map[int]int{}
	for seed := range uint64(40) {
		w := newWriter(randomSetup(newDice(seed+2000)), seed+300)
		w.forging = seed%4 > 0
		checkMemory(t, "script "+itoa(int(seed)), w.write(100), codes)
	}
	for _, code := range []int{api.OK, api.Malformed, api.BadTag, api.SkipLimit, api.StoreFull, api.Counter, api.DiskFull, api.Old, api.NotReady} {
		if codes[code] < 10 {
			t.Errorf("code %d came up %d times: the scripts ask too little", code, codes[code])
		}
	}
}

// P2 at each region around the sizes of records with up to twelve kept keys.
func TestRecordsThatDoNotFit(t *testing.T) {
	codes := map[int]int{}
	for region := 8; region <= 20; region++ {
		p := newPlayer(setupOf(12, 11, region))
		for i := range 14 {
			p.do(sendStep(0, "message "+itoa(i), 5))
		}
		for _, ref := range []int{12, 13, 11, 10, 9, 8, 7, 6, 5, 4, 3, 2, 1, 12, 0, 13, 12} {
			p.do(relayStep(1, ref))
			p.do(sendStep(1, "back", uint64(100+ref)))
		}
		checkMemory(t, "region "+itoa(region), p, codes)
	}
	if codes[api.DiskFull] < 20 || codes[api.StoreFull] < 5 {
		t.Errorf("the codes are %v", codes)
	}
}

// P2 with the limits of 0 and the greatest ones.
func TestLimitsInScripts(t *testing.T) {
	codes := map[int]int{}
	for i, setup := range []api.Setup{setupOf(0, 0, 8), setupOf(0, 5, 8), setupOf(5, 0, 8), setupOf(1, 1, 8), setupOf(1000, 1000, 16)} {
		checkMemory(t, "limits", newWriter(setup, uint64(i)).write(120), codes)
	}
}

// P2 and the greatest limits: 1000 keys are skipped and kept, and not one more.
func TestGreatestLimitsInScripts(t *testing.T) {
	t.Parallel()
	setup := setupOf(1000, 1000, 1200)
	var steps []api.Step
	for range 1003 {
		steps = append(steps, sendStep(0, "", 5))
	}
	for _, ref := range []int{1001, 1000, 1002, 5, 1002, 5, 1001, 1001} {
		steps = append(steps, relayStep(1, ref))
	}
	m := newMemory(setup)
	trace := session.Run(setup, steps)
	for i, step := range steps {
		checkAnswer(t, "step "+itoa(i), trace.Answers[i], m.do(step))
	}
	m.checkDisks(t, "the greatest limits", trace.Disks)
	for i, code := range []int{api.SkipLimit, api.OK, api.StoreFull, api.OK, api.OK, api.Old, api.OK, api.Old} {
		checkCode(t, "relay "+itoa(i), trace.Answers[1003+i].Code, code)
	}
}
