package dfa_test

import (
	"math"
	"strings"
	"testing"

	"dredge/api"
)

// last is the program of `[ab]*a[ab]\{k\}`, with other bytes for a and b: which of the last bytes were of the first kind is all that a state knows. It has 2 to the power of k + 1 states, and one more.
func last(k int, first, both api.Inst) api.Program {
	p := of(split(1, 3), both, jump(0), first)
	p.Insts = append(p.Insts, many(both, k, match())...)
	return p
}

// TestStatesAndRoom: P17.3, states are given up only when there is no room for one more: not if there is just enough.
func TestStatesAndRoom(t *testing.T) {
	p := last(4, only('a'), only('a', 'b'))
	line := around(6)
	all := func(room int) asked {
		a := ask(t, p, room)
		for at := range 4 {
			a.Longest(line, at)
			a.Ends(line, at)
			a.Any(line, at)
		}
		return a
	}
	count := all(api.MaxRoom).States()
	// Those that differ in what they lead to, with those that begin anew.
	if count < 2*32 {
		t.Fatalf("%d states", count)
	}
	for room := 2; room < count+10; room++ {
		a := all(room)
		if a.States() < 1 || a.States() > room || (a.Flushes() == 0) != (room >= count) {
			t.Errorf("room %d of %d: %d states, %d flushes", room, count, a.States(), a.Flushes())
		}
	}
}

// TestStatesGrow: P17.3, what is kept grows up to the room, and then there is none but the newest one.
func TestStatesGrow(t *testing.T) {
	line := around(10)
	for _, room := range []int{2, 3, 4, 10, 100} {
		a := ask(t, last(8, only('a'), only('a', 'b')), room)
		fullest := 0
		for to := range 300 {
			states, flushes := a.States(), a.Flushes()
			a.Longest(line[:to], 0)
			if a.Flushes() == flushes && a.States() < states {
				t.Fatalf("room %d: %d states behind %d, and nothing was given up", room, a.States(), states)
			}
			fullest = max(fullest, a.States())
		}
		if fullest != room || a.Flushes() == 0 {
			t.Errorf("room %d: %d states at most, %d flushes", room, fullest, a.Flushes())
		}
	}
}

// TestOneStateTwice: P17.5, one that is come to by several ways is kept once.
func TestOneStateTwice(t *testing.T) {
	a := ask(t, plain(t, `[ab]*c`), 3)
	for _, line := range linesOf([]string{"a", "b"}, 4) {
		a.longest(line, 0, -1)
		a.longest(line+"c", 0, len(line)+1)
	}
	if a.Flushes() > 0 {
		t.Errorf("%d flushes", a.Flushes())
	}
	// Behind an a the last instruction that reads is come to first, behind a b last.
	b := ask(t, of(split(1, 3), only('a'), jump(5), only('b'), jump(6), split(0, 10), split(0, 7), jump(8), jump(9), jump(10), only('c'), match()), 2)
	for _, line := range linesOf([]string{"a", "b"}, 4) {
		b.longest(line, 0, -1)
	}
	if b.Flushes() > 0 {
		t.Errorf("%d flushes", b.Flushes())
	}
}

// around is a line of a and b in which each row of so many of them stands just once, but for those that go round its end: the greatest of all such lines.
func around(width int) string {
	var s strings.Builder
	seen := make([]bool, 1<<width)
	for row := 0; ; {
		// An a, unless that row was there.
		row = (row<<1 | 1) & (len(seen) - 1)
		if seen[row] {
			row--
		}
		if seen[row] {
			return s.String()
		}
		seen[row] = true
		s.WriteByte("ba"[row&1])
	}
}

// TestManySteps: P17.5, where more steps are known than one table has entries: all of them are kept.
func TestManySteps(t *testing.T) {
	odd, every := only(), only()
	for w := range odd.Set {
		odd.Set[w], every.Set[w] = 0xaaaaaaaaaaaaaaaa, math.MaxUint64
	}
	p := last(12, odd, every)
	// By turns with all bytes: each state, and each byte behind it.
	round := around(14)
	var line []byte
	for b := 0; len(line) < 3*api.MaxEntries/2; b += 2 {
		for i := range len(round) {
			line = append(line, byte(b)|round[i]&1)
		}
	}
	a := ask(t, p, 9000)
	a.twice(string(line), 0, len(line), func() { a.Longest(string(line), 0) })
	if a.States() < 1<<13 || a.Flushes() > 0 {
		t.Errorf("%d states, %d flushes", a.States(), a.Flushes())
	}
}
