package back_test

import (
	"testing"

	"dredge/api"
	"dredge/back"
)

// How many groups and counters the model knows.
const (
	modelGroups   = 3
	modelCounters = 3
)

// group is what chapter 14's configurations have of a group, counter what they have of a counter.
type group struct {
	has, begins bool
	part        api.Span
	begun       int
}
type counter struct{ turns, last int }

// config is a configuration, whole.
type config struct {
	inst, place int
	groups      [modelGroups]group
	counters    [modelCounters]counter
}

// model plays a program from one place, by chapter 14's table: from each configuration to those that it leads to.
type model struct {
	p    api.Program
	line string
	seen map[config]bool
	todo []config
	best int // the greatest place of an OpMatch; -1, if there is none
}

func play(p api.Program, line string, at int) *model {
	m := &model{p: p, line: line, seen: map[config]bool{}, best: -1}
	m.come(config{place: at})
	for len(m.todo) > 0 {
		c := m.todo[len(m.todo)-1]
		m.todo = m.todo[:len(m.todo)-1]
		m.lead(c)
	}
	return m
}

func (m *model) come(c config) {
	if !m.seen[c] {
		m.seen[c] = true
		m.todo = append(m.todo, c)
	}
}

func (m *model) lead(c config) {
	in, on := m.p.Insts[c.inst], c
	on.inst++
	switch in.Op {
	case api.OpByte:
		if c.place < len(m.line) && in.Set[m.line[c.place]/64]>>(m.line[c.place]%64)&1 == 1 {
			on.place++
			m.come(on)
		}
	case api.OpSplit:
		m.jump(c, in.X)
		m.jump(c, in.Y)
	case api.OpJump:
		m.jump(c, in.X)
	case api.OpBegin:
		if c.place == 0 {
			m.come(on)
		}
	case api.OpEnd:
		if c.place == len(m.line) {
			m.come(on)
		}
	case api.OpOpen:
		g := &on.groups[in.N]
		g.begins, g.begun = true, c.place
		m.come(on)
	case api.OpClose:
		g := &on.groups[in.N]
		g.has, g.part = true, api.Span{From: c.place, To: c.place}
		if g.begins {
			g.part.From = g.begun
		}
		m.come(on)
	case api.OpBack:
		g := c.groups[in.N]
		if g.has && m.stands(m.line[g.part.From:g.part.To], c.place) {
			on.place += g.part.To - g.part.From
			m.come(on)
		}
	case api.OpZero:
		on.counters[in.N] = counter{}
		m.come(on)
	case api.OpTurn:
		m.turn(c, in)
	case api.OpMatch:
		m.best = max(m.best, c.place)
	}
}

func (m *model) jump(c config, to int) {
	c.inst = to
	m.come(c)
}

func (m *model) turn(c config, in api.Inst) {
	k := c.counters[in.N]
	if k.turns > in.Min && k.last == c.place {
		return
	}
	if in.Max == api.Infinite || k.turns < in.Max {
		on := c
		on.counters[in.N] = counter{k.turns + 1, c.place}
		m.jump(on, in.X)
	}
	if k.turns >= in.Min {
		m.jump(c, in.Y)
	}
}

// stands tells whether a text stands at a place.
func (m *model) stands(text string, place int) bool {
	if len(text) > len(m.line)-place {
		return false
	}
	for i := range len(text) {
		if !modelAlike(text[i], m.line[place+i], m.p.Fold) {
			return false
		}
	}
	return true
}

func modelAlike(a, b byte, fold bool) bool {
	great := func(c byte) byte {
		if c >= 'a' && c <= 'z' {
			return c - 32
		}
		return c
	}
	return a == b || fold && great(a) == great(b)
}

// apart is how many configurations were come to that chapter 20 tells apart: by groups that are referred to, and by counters that have turns, up to one more than their bounds.
func (m *model) apart() int {
	l := map[config]bool{}
	referred, bounds := needs(m.p)
	for c := range m.seen {
		for n := range c.groups {
			if !referred[n] {
				c.groups[n] = group{}
			}
		}
		for n := range c.counters {
			k := &c.counters[n]
			here := k.turns > 0 && k.last == c.place
			k.turns, k.last = min(k.turns, bounds[n]+1), 0
			if here {
				k.last = 1
			}
			if _, turns := bounds[n]; !turns {
				*k = counter{}
			}
		}
		l[c] = true
	}
	return len(l)
}

// needs is which groups of a program are referred to, and the bounds of its counters that have turns.
func needs(p api.Program) (map[int]bool, map[int]int) {
	referred, bounds := map[int]bool{}, map[int]int{}
	for _, in := range p.Insts {
		switch in.Op {
		case api.OpBack:
			referred[in.N] = true
		case api.OpTurn:
			bound := in.Max
			if in.Max == api.Infinite {
				bound = in.Min
			}
			bounds[in.N] = max(bounds[in.N], bound)
		}
	}
	return referred, bounds
}

// mostSteps is P20.4's number: what a Longest in a line of n bytes does at most; no more than 2^40.
func mostSteps(p api.Program, n int) int {
	const enough = 1 << 40
	most := 16 * len(p.Insts) * (n + 1)
	referred, bounds := needs(p)
	for range referred {
		for range 3 {
			most = min(most*(n+2), enough)
		}
	}
	for _, bound := range bounds {
		most = min(most*2*(bound+2), enough)
	}
	return most
}

// watch holds Steps and Kept against the promises around one call: the steps that it did are at least one, and at most so many; of a plain machine any number.
func watch(t *testing.T, b *back.Back, plain bool, most int, call func()) {
	t.Helper()
	steps, kept := b.Steps(), b.Kept()
	call()
	done := b.Steps() - steps
	switch {
	case done < 1 || !plain && done > most:
		t.Errorf("%d steps, want 1 to %d", done, most)
	case b.Kept() < kept || plain && b.Kept() != 0 || !plain && b.Kept() < 1 || b.Kept() > b.Steps():
		t.Errorf("kept %d, and then %d, in %d steps", kept, b.Kept(), b.Steps())
	}
}

// holds asks all calls at all places of a line, of two machines that are asked all that, one plain, and tells what is otherwise than in the model; it tells how many matches there were.
func holds(t *testing.T, p api.Program, line string) int {
	t.Helper()
	matches := 0
	machines := map[bool]*back.Back{}
	for _, plain := range []bool{false, true} {
		machines[plain] = made(t, p, plain)
	}
	want, any, finding := api.Span{}, false, 0
	// From behind: what is found from a place on is what begins there, or what is found from the next one on.
	for at := len(line); at >= 0; at-- {
		m := play(p, line, at)
		if m.best >= 0 {
			matches++
			want, any, finding = api.Span{From: at, To: m.best}, true, 0
		}
		// Each configuration is gone on from once, to two at most.
		most := min(1+2*m.apart(), mostSteps(p, len(line)))
		finding += most
		for plain, b := range machines {
			watch(t, b, plain, most, func() {
				to, found, e := b.Longest(line, at)
				if to != max(0, m.best) || found != (m.best >= 0) || e != api.OK {
					t.Errorf("Longest(%q, %d): %d, %v, %v, want %d", line, at, to, found, e, m.best)
				}
			})
			watch(t, b, plain, finding, func() {
				if part, found, e := b.Find(line, at); part != want || found != any || e != api.OK {
					t.Errorf("Find(%q, %d): %v, %v, %v, want %v", line, at, part, found, e, want)
				}
			})
			if t.Failed() {
				t.Fatalf("%v, plain %v, in %q at %d", p, plain, line, at)
			}
		}
	}
	return matches
}
