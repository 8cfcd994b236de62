package session

import (
	"slices"

	"ratchet/api"
	"ratchet/journal"
)

// A play is a script as far as it has been carried out. Of a disk it keeps
// the bytes alone: each step asks the disk itself, so that a power cut leaves
// nothing behind that the disk does not know.
type play struct {
	steps   []api.Step
	answers []api.Answer // of the steps so far
	disks   [2][]byte
}

func playOf(setup api.Setup, steps []api.Step) *play {
	p := &play{steps: steps}
	for party := range p.disks {
		p.disks[party] = Create(setup, party)
	}
	return p
}

// answer carries a step out. The disk is taken over whatever the code is: a
// power cut leaves another one too.
func (p *play) answer(step api.Step) api.Answer {
	if !isParty(step.Party) {
		return api.Answer{Code: api.Bad}
	}
	o := p.outcome(step, p.disks[step.Party])
	p.disks[step.Party] = o.Image
	return api.Answer{Code: o.Code, Out: o.Out, Epoch: o.Epoch, N: o.N}
}

func (p *play) outcome(step api.Step, disk []byte) api.Outcome {
	switch step.Op {
	case api.OpSend:
		return Send(disk, step.Data, step.Seed, step.Crash)
	case api.OpDeliver:
		return Deliver(disk, step.Data, step.Crash)
	case api.OpRelay:
		return Deliver(disk, p.relayed(step), step.Crash)
	case api.OpCompact:
		return outcomeOf(journal.Compact(disk, step.Crash))
	case api.OpRecover:
		return outcomeOf(journal.Recover(disk, step.Crash))
	}
	return api.Outcome{Code: api.Bad, Image: disk}
}

func outcomeOf(w api.Wrote) api.Outcome { return api.Outcome{Code: w.Code, Image: w.Image} }

// relayed is a copy of the frame that the step means, so that what the network
// does to it leaves the sender's answer alone.
func (p *play) relayed(step api.Step) []byte {
	if !p.released(step.Ref) {
		return nil
	}
	f := slices.Clone(p.answers[step.Ref].Out)
	if step.Flip >= 0 && step.Flip < len(f) {
		f[step.Flip] ^= step.Mask
	}
	return f
}

// released says whether an earlier step of this number has let a frame go.
func (p *play) released(number int) bool {
	return number >= 0 && number < len(p.answers) &&
		p.steps[number].Op == api.OpSend && p.answers[number].Code == api.OK
}
