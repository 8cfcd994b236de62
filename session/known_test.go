package session_test

import (
	"crypto/sha256"
	"encoding/binary"
	"encoding/hex"
	"testing"

	"ratchet/api"
	"ratchet/session"
)

// digestOf is SHA-256 over all that a trace tells: numbers in eight bytes each,
// lists behind their lengths.
func digestOf(trace api.Trace) string {
	b := number(nil, trace.Code)
	b = number(b, len(trace.Answers))
	for _, a := range trace.Answers {
		b = append(number(number(b, a.Code), len(a.Out)), a.Out...)
		b = number(number(b, int(a.Epoch)), int(a.N))
	}
	b = number(b, len(trace.Disks))
	for _, disk := range trace.Disks {
		b = append(number(b, len(disk)), disk...)
	}
	digest := sha256.Sum256(b)
	return hex.EncodeToString(digest[:])
}

func number(b []byte, x int) []byte { return binary.BigEndian.AppendUint64(b, uint64(x)) }

// exchange is a conversation with three changes of direction, in which frames
// are lost, repeated, out of order and forged.
func exchange() []api.Step {
	steps := []api.Step{
		sendStep(0, "one", 1), sendStep(0, "two", 2), sendStep(0, "", 3), relayStep(1, 2), relayStep(1, 0), relayStep(1, 0),
		sendStep(1, "back", 4), sendStep(1, "and forth", 5), relayStep(0, 7), flipped(relayStep(0, 6), 46, 1), relayStep(0, 6),
		sendStep(0, string(noise(1, 1000)), 6), sendStep(0, "lost", 7), sendStep(0, "three", 8), relayStep(1, 13), relayStep(1, 1),
		relayStep(0, 13), sendStep(1, "last", 9), relayStep(0, 17), relayStep(1, 11), relayStep(1, 40),
	}
	return append(steps, stepOf(api.OpCompact, 1), stepOf(api.OpRecover, 0), stepOf(0, 0), stepOf(1, 2))
}

// interrupted is the same exchange with a power cut in every third step, each
// party recovered a while later.
func interrupted() []api.Step {
	var steps []api.Step
	for i, step := range exchange() {
		if i%3 == 0 {
			step.Crash = api.Crash{At: 1 + i%7, Keep: []bool{true, false, i%2 == 0, true}, Cut: []int{0, 63, 64, 20}[i%4]}
		}
		// A step that was not there before stands ahead of each, so that Ref is doubled.
		step.Ref = 2*step.Ref + 1
		steps = append(steps, cutOff(stepOf(api.OpRecover, i%2), i%4, 33, true), step)
	}
	return steps
}

// These digests were worked out from the document by a program of another
// language, which shares nothing with this one.
func TestKnownTraces(t *testing.T) {
	for i, known := range []struct {
		setup  api.Setup
		steps  []api.Step
		digest string
	}{
		{setupOf(3, 5, 12), nil, "f00c2784d9122b773f603a28007741fa46a08cdcde594ae6bc64192bda86abf8"},
		{setupOf(3, 5, 12), exchange(), "c9354c6e183316cad23507b22a414d6f5f5cb04e17aff995fb59a86235430fe3"},
		{setupOf(2, 2, 8), exchange(), "46638519b917cabcc260bdb615c9df9ce7d8c917d4c09ca8a90e616776e34853"},
		{setupOf(9, 9, 40), exchange(), "5bde188c7b19a436f3b219f9498491bf0e6031cd39a913d156854edb2bbafdf1"},
		{setupOf(3, 5, 12), interrupted(), "c5c77fbae2f359a59ec7fd199dc0bb1d41c2b1090e28779d70c7c9a68015ebc2"},
		{setupOf(9, 9, 23), interrupted(), "c11a2f52fea5f95c5e05205ff6d1b5cf1561d8ae53915103cc59e5957235f2c9"},
	} {
		trace := session.Run(known.setup, known.steps)
		if got := digestOf(trace); got != known.digest {
			t.Errorf("script %d: %s", i, got)
		}
	}
}
