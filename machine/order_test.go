package machine_test

import (
	"slices"
	"strconv"
	"testing"

	"ratchet/api"
)

func names(prefix string, n int) []string {
	var list []string
	for i := range n {
		list = append(list, prefix+strconv.Itoa(i))
	}
	return list
}

// orders calls visit with every order of the list.
func orders(list []string, visit func([]string)) {
	var place func(done, rest []string)
	place = func(done, rest []string) {
		if len(rest) == 0 {
			visit(done)
		}
		for i := range rest {
			others := slices.Concat(rest[:i], rest[i+1:])
			place(append(slices.Clone(done), rest[i]), others)
		}
	}
	place(nil, list)
}

// P14: the messages of one chain in any order, each once, with just the Skip
// and the Room that the farthest order needs.
func TestAnyOrderEachOnce(t *testing.T) {
	p := newPair(t, 4, 4)
	p.send(0, names("a", 5)...)
	start := p.states
	orders(names("a", 5), func(order []string) {
		p.states = start
		for i, name := range order {
			p.get(1, name, api.OK)
			for _, again := range order[:i+1] {
				p.get(1, again, api.Old)
			}
		}
		p.kept(1, 0)
	})
}

// The messages of two chains of one party in any order: what the second chain
// skips of the first is kept.
func TestAnyOrderOverTwoChains(t *testing.T) {
	p := newPair(t, 5, 5)
	p.send(0, "a0", "a1", "a2")
	p.get(1, "a0", api.OK)
	p.send(1, "b0")
	p.get(0, "b0", api.OK)
	p.send(0, "c0", "c1", "c2")
	start := p.states
	orders([]string{"a1", "a2", "c0", "c1", "c2"}, func(order []string) {
		p.states = start
		p.getAll(1, order...)
		p.kept(1, 0)
		for _, name := range []string{"c0", "c1", "c2"} {
			p.get(1, name, api.Old)
		}
	})
}

// The answer in a new chain, over many changes of direction.
func TestAnswers(t *testing.T) {
	p := newPair(t, 0, 0)
	for i := range 20 {
		who, name := i%2, "m"+strconv.Itoa(i)
		p.send(who, name, name+"x")
		p.getAll(1-who, name, name+"x")
		s := p.states[who]
		if s.SendEpoch != uint32(i/2+1) || s.Ns != 2 || s.Pn != uint32(min(2, i/2*2)) {
			t.Errorf("turn %d: epoch %d, Ns %d, Pn %d", i, s.SendEpoch, s.Ns, s.Pn)
		}
	}
}

// Both send at once; each finds the other's chain, and begins a new one of
// its own afterwards.
func TestBothAtOnce(t *testing.T) {
	p := newPair(t, 3, 9)
	p.send(0, "a0", "a1", "a2")
	p.get(1, "a1", api.OK)
	p.send(1, "b0", "b1")
	p.send(0, "a3")
	p.get(0, "b1", api.OK)
	p.get(1, "a3", api.OK)
	p.send(0, "c0")
	p.send(1, "b2")
	p.get(1, "c0", api.OK)
	p.get(0, "b2", api.OK)
	p.send(1, "d0")
	p.get(0, "d0", api.OK)
	p.getAll(0, "b0")
	p.getAll(1, "a0", "a2")
	p.kept(0, 0)
	p.kept(1, 0)
}

// A lost answer: the party goes on in its chain, and the next answer closes
// the gap.
func TestLostFrames(t *testing.T) {
	p := newPair(t, 4, 4)
	p.send(0, names("a", 4)...)
	p.get(1, "a3", api.OK)
	p.kept(1, 3)
	p.send(1, "b0", "b1", "b2")
	p.get(0, "b2", api.OK)
	p.send(0, "c0", "c1", "c2")
	p.get(1, "c2", api.StoreFull)
	p.get(1, "a0", api.OK)
	p.get(1, "c2", api.OK)
	p.kept(1, 4)
	p.getAll(1, "c0", "a2", "a1", "c1")
	p.getAll(0, "b0", "b1")
	p.kept(0, 0)
	p.kept(1, 0)
	p.get(1, "a1", api.BadTag)
}

// A frame that is handed to its own sender, or ahead of the peer's key.
func TestStrayFrames(t *testing.T) {
	p := newPair(t, 4, 4)
	p.send(0, "a0", "a1")
	p.get(0, "a0", api.BadTag)
	p.get(1, "a0", api.OK)
	p.send(1, "b0")
	p.get(1, "b0", api.BadTag)
	p.get(0, "b0", api.OK)
	p.get(0, "b0", api.Old)
	p.get(1, "a1", api.OK)
}
