package machine_test

import (
	"math/rand/v2"
	"slices"
	"testing"

	"ratchet/api"
)

// A talk is a long row of sends, deliveries and forgeries, each held against
// the model.
type talk struct {
	*pair
	dice  *rand.Rand
	sent  [][]byte
	codes map[int]int
}

func newTalk(t *testing.T, seed uint64) *talk {
	dice := rand.New(rand.NewPCG(seed, 1))
	return &talk{newPair(t, dice.IntN(6), dice.IntN(9)), dice, nil, map[int]int{}}
}

func (k *talk) key() api.Key { return noiseKey(k.dice.Uint64()) }

func (k *talk) sendNoise(who int) {
	text := noise(k.dice.Uint64(), k.dice.IntN(50))
	turn := checkEncrypt(k.t, "send", k.states[who], text, k.key())
	k.answer("send", who, turn)
	if turn.Code == api.OK {
		k.sent = append(k.sent, turn.Out)
	}
}

func (k *talk) hand(who int, frame []byte) {
	k.answer("hand", who, checkDecrypt(k.t, "hand", k.states[who], frame))
}

func (k *talk) answer(what string, who int, turn api.Turn) {
	k.codes[turn.Code]++
	if turn.Code != api.OK {
		checkRefused(k.t, what, turn, k.states[who])
	}
	k.states[who] = turn.State
}

func (k *talk) lateFrame() []byte {
	if len(k.sent) == 0 {
		return nil
	}
	from := max(0, len(k.sent)-12)
	return slices.Clone(k.sent[from+k.dice.IntN(len(k.sent)-from)])
}

// forged is a frame of which one place is not as it was.
func (k *talk) forged() []byte {
	frame := k.lateFrame()
	if len(frame) == 0 {
		return noise(k.dice.Uint64(), k.dice.IntN(100))
	}
	switch k.dice.IntN(5) {
	case 0:
		frame[k.dice.IntN(len(frame))] ^= 1 << k.dice.IntN(8)
	case 1:
		frame = putU32(frame, 37, uint32(k.dice.IntN(10)))
	case 2:
		frame = putU32(frame, 33, uint32(k.dice.IntN(10)))
	case 3:
		frame = frame[:k.dice.IntN(len(frame))]
	case 4:
		frame = putU32(frame, 37, api.MaxCounter)
	}
	return frame
}

func (k *talk) step() {
	who := k.dice.IntN(2)
	switch d := k.dice.IntN(20); {
	case d < 8:
		k.sendNoise(who)
	case d < 17:
		k.hand(who, k.lateFrame())
	case d < 19:
		k.hand(who, k.forged())
	default:
		// Far limits now and then, so that a talk does not stand still.
		k.states[who].Skip, k.states[who].Room = 3+k.dice.IntN(4), len(k.states[who].Store)+k.dice.IntN(8)
	}
}

// P14 and P6, at states and frames of all kinds.
func TestTalks(t *testing.T) {
	codes := map[int]int{}
	for seed := range uint64(30) {
		k := newTalk(t, seed)
		for range 120 {
			k.step()
		}
		for code, n := range k.codes {
			codes[code] += n
		}
	}
	for _, code := range []int{api.OK, api.Malformed, api.BadTag, api.SkipLimit, api.StoreFull, api.Counter, api.Old, api.NotReady} {
		if codes[code] < 5 {
			t.Errorf("code %d came up %d times: the talks ask too little", code, codes[code])
		}
	}
}

// What was encrypted is what the other party reads, whatever else came
// between: the talk as its two parties see it.
func TestTalksAreUnderstood(t *testing.T) {
	for seed := range uint64(10) {
		k := newTalk(t, seed)
		k.states[0].Skip, k.states[0].Room = 50, 200
		k.states[1].Skip, k.states[1].Room = 50, 200
		count := 0
		var waiting [2][]string
		for range 100 {
			who := k.dice.IntN(2)
			if k.states[who].HasPeer && k.dice.IntN(2) == 0 {
				name := names("m", count+1)[count]
				count++
				k.send(who, name)
				waiting[1-who] = append(waiting[1-who], name)
			} else if n := len(waiting[who]); n > 0 {
				i := k.dice.IntN(n)
				k.get(who, waiting[who][i], api.OK)
				waiting[who] = slices.Delete(waiting[who], i, i+1)
			}
		}
		k.getAll(0, waiting[0]...)
		k.getAll(1, waiting[1]...)
	}
}
