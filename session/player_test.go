package session_test

import (
	"bytes"
	"math/rand/v2"
	"slices"
	"testing"

	"ratchet/api"
	"ratchet/journal"
	"ratchet/session"
)

// A player carries steps out one by one with Create, Send, Deliver, Compact
// and Recover, as 7.1 says, and remembers them for Run.
type player struct {
	setup api.Setup
	steps []api.Step
	trace api.Trace
}

func newPlayer(setup api.Setup) *player {
	return &player{setup: setup, trace: api.Trace{Disks: [][]byte{session.Create(setup, 0), session.Create(setup, 1)}}}
}

// play carries a whole script out.
func play(setup api.Setup, steps []api.Step) *player {
	p := newPlayer(setup)
	for _, step := range steps {
		p.do(step)
	}
	return p
}

func (p *player) do(step api.Step) api.Answer {
	answer := api.Answer{Code: api.Bad}
	if step.Party == 0 || step.Party == 1 {
		answer = p.doOn(&p.trace.Disks[step.Party], step)
	}
	p.steps = append(p.steps, step)
	p.trace.Answers = append(p.trace.Answers, answer)
	return answer
}

func (p *player) doOn(disk *[]byte, step api.Step) api.Answer {
	var o api.Outcome
	switch step.Op {
	case 1:
		o = session.Send(*disk, step.Data, step.Seed, step.Crash)
	case 2:
		o = session.Deliver(*disk, step.Data, step.Crash)
	case 3:
		o = session.Deliver(*disk, p.relayed(step), step.Crash)
	case 4:
		w := journal.Compact(*disk, step.Crash)
		o = api.Outcome{Code: w.Code, Image: w.Image}
	case 5:
		w := journal.Recover(*disk, step.Crash)
		o = api.Outcome{Code: w.Code, Image: w.Image}
	default:
		return api.Answer{Code: api.Bad}
	}
	*disk = o.Image
	return answerOf(o)
}

// frame is what the step of this number has released, or nothing.
func (p *player) frame(number int) []byte {
	for i, step := range p.steps {
		if i == number && step.Op == 1 && p.trace.Answers[i].Code == 0 {
			return p.trace.Answers[i].Out
		}
	}
	return nil
}

func (p *player) relayed(step api.Step) []byte {
	f := slices.Clone(p.frame(step.Ref))
	for i := range f {
		if step.Mask != 0 && i == step.Flip {
			f[i] ^= step.Mask
		}
	}
	return f
}

// checkRun asks Run for what the single calls have given (P1).
func (p *player) checkRun(t *testing.T, what string) {
	t.Helper()
	checkTrace(t, what, runGuarded(t, p.setup, p.steps), p.trace)
}

func checkTrace(t *testing.T, what string, got, want api.Trace) {
	t.Helper()
	if got.Code != want.Code || len(got.Answers) != len(want.Answers) || len(got.Disks) != len(want.Disks) {
		t.Fatalf("%s: code %d, %d answers, %d disks; want code %d, %d answers, %d disks", what,
			got.Code, len(got.Answers), len(got.Disks), want.Code, len(want.Answers), len(want.Disks))
	}
	for i, answer := range got.Answers {
		if !sameAnswer(answer, want.Answers[i]) {
			checkAnswer(t, what+": step "+itoa(i), answer, want.Answers[i])
		}
	}
	for i, disk := range got.Disks {
		sameBytes(t, what+": disk "+itoa(i), disk, want.Disks[i])
	}
}

// lists are all lists of bytes of a trace.
func lists(trace api.Trace) [][]byte {
	var list [][]byte
	for _, a := range trace.Answers {
		list = append(list, a.Out)
	}
	return append(list, trace.Disks...)
}

// guardedSteps are the steps in memory of their own, each list with memory
// behind its end.
func guardedSteps(steps []api.Step) []api.Step {
	own := guarded(steps, api.Step{Op: 77})
	for i := range steps {
		own[i].Data = guarded(own[i].Data, 0xa5)
		own[i].Crash.Keep = guarded(own[i].Crash.Keep, true)
	}
	return own
}

func sameStep(a, b api.Step) bool {
	return a.Op == b.Op && a.Party == b.Party && bytes.Equal(whole(a.Data), whole(b.Data)) && a.Seed == b.Seed &&
		a.Ref == b.Ref && a.Flip == b.Flip && a.Mask == b.Mask && a.Crash.At == b.Crash.At && a.Crash.Cut == b.Crash.Cut &&
		slices.Equal(whole(a.Crash.Keep), whole(b.Crash.Keep))
}

// runGuarded runs a script on guarded lists. It asks that the script and the
// memory behind its lists stay as they were, that the answer is the same once
// more, and that it shares no memory with the script (P16).
func runGuarded(t *testing.T, setup api.Setup, steps []api.Step) api.Trace {
	t.Helper()
	given, left := guardedSteps(steps), guardedSteps(steps)
	first := session.Run(setup, given)
	for _, list := range lists(first) {
		spoil(list)
	}
	if !slices.EqualFunc(whole(given), whole(left), sameStep) {
		t.Error("the script is changed by Run, or by a write into its answer")
	}
	again := session.Run(setup, given)
	for _, step := range given {
		spoil(step.Data)
		clear(whole(step.Crash.Keep))
	}
	clear(whole(given))
	return again
}

// A writer makes up scripts as it plays them: conversations on a bad network.
type writer struct {
	*player
	*rand.Rand
	waiting [2][]int // the released frames that wait for a party
	cuts    bool     // power cuts come up
	forging bool     // frames come up that no honest network carries
}

func newWriter(setup api.Setup, seed uint64) *writer {
	return &writer{player: newPlayer(setup), Rand: newDice(seed)}
}

// crash is a plan, most of the time one that does not strike.
func (w *writer) crash() api.Crash {
	if !w.cuts || w.IntN(3) > 0 {
		return api.Crash{}
	}
	crash := api.Crash{At: w.IntN(16), Cut: []int{0, 63, 64, w.IntN(80) - 8}[w.IntN(4)]}
	for range w.IntN(12) {
		crash.Keep = append(crash.Keep, w.IntN(2) == 0)
	}
	return crash
}

func (w *writer) send(party int) {
	step := api.Step{Op: api.OpSend, Party: party, Data: noise(w.Uint64(), w.IntN(90)), Seed: noiseKey(w.Uint64()), Crash: w.crash()}
	if w.do(step).Code == api.OK {
		w.waiting[1-party] = append(w.waiting[1-party], len(w.steps)-1)
	}
}

// relay takes one of the frames that wait, mostly one of the first. It goes on
// waiting now and then, as does one that was not opened.
func (w *writer) relay(party int) {
	list := w.waiting[party]
	if len(list) == 0 {
		w.send(1 - party)
		return
	}
	i := min(w.IntN(len(list)), w.IntN(len(list)))
	answer := w.do(api.Step{Op: api.OpRelay, Party: party, Ref: list[i], Crash: w.crash()})
	if answer.Code == api.OK && w.IntN(5) > 0 {
		w.waiting[party] = slices.Delete(list, i, i+1)
	}
}

// lose drops one of the frames that wait.
func (w *writer) lose(party int) {
	if list := w.waiting[party]; len(list) > 0 {
		i := w.IntN(len(list))
		w.waiting[party] = slices.Delete(list, i, i+1)
	}
}

// forge hands over what nobody has sent: an altered frame, a frame to its own
// sender, a raised number, any bytes, a step that has released nothing.
func (w *writer) forge(party int) {
	ref := len(w.steps) - w.IntN(14)
	step := api.Step{Op: api.OpRelay, Party: party, Ref: ref, Crash: w.crash()}
	switch w.IntN(6) {
	case 0:
		step.Flip, step.Mask = w.IntN(130), 1<<w.IntN(8)
	case 1:
		step.Flip, step.Mask = 36+4*w.IntN(2), byte(w.IntN(8))
	case 2:
		step.Op, step.Data = api.OpDeliver, noise(w.Uint64(), w.IntN(100))
	case 3:
		if f := w.frame(ref); f != nil {
			step.Op, step.Data = api.OpDeliver, withN(withPn(f, uint32(w.IntN(9))), uint32(w.IntN(9)))
		}
	case 4:
		if f := w.frame(ref); f != nil {
			step.Op, step.Data = api.OpDeliver, withN(f, 1<<32-1)
		}
	}
	w.do(step)
}

func (w *writer) step() {
	party := w.IntN(2)
	switch d := w.IntN(40); {
	case d < 12:
		w.send(party)
	case d < 25:
		w.relay(party)
	case d < 27:
		w.lose(party)
	case d < 31 && w.forging:
		w.forge(party)
	case d < 33:
		w.do(api.Step{Op: api.OpCompact, Party: party, Crash: w.crash()})
	case d < 36 || w.cuts:
		w.do(api.Step{Op: api.OpRecover, Party: party, Crash: w.crash()})
	default:
		w.relay(party)
	}
}

// write goes on up to so many steps.
func (w *writer) write(steps int) *player {
	for len(w.steps) < steps {
		w.step()
	}
	return w.player
}

// randomSetup has limits and regions that come into the way now and then.
func randomSetup(dice *rand.Rand) api.Setup {
	setup := setupOf(dice.IntN(7), dice.IntN(12), []int{8, 9, 8 + dice.IntN(14)}[dice.IntN(3)])
	setup.Root, setup.Priv = noiseKey(dice.Uint64()), noiseKey(dice.Uint64())
	return setup
}
