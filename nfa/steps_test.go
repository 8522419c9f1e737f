package nfa_test

import (
	"strings"
	"testing"

	"dredge/api"
	"dredge/nfa"
)

// TestStepsInLongLines: P16.4, where who began anew at each place would do far more; and from any place on.
func TestStepsInLongLines(t *testing.T) {
	long := strings.Repeat("a", 20000)
	for _, pattern := range []string{`a*b`, `a*a*a*b`, `\(a*\)*b`, `\(a\|aa\)*b`, `a.\{50\}b`, `^a*b`, `b`} {
		p := plain(t, pattern)
		for _, from := range []int{0, 1, 19000, 19999, 20000} {
			findsNone(t, p, long, from)
			reachesNone(t, p, long, from)
			finds(t, plain(t, pattern+`\|a*`), long, from, api.Span{From: from, To: 20000})
		}
	}
}

// TestStepsAtTheEnd: P16.4, at the line's length no byte stands behind, however long the line is: four times the instructions at most.
func TestStepsAtTheEnd(t *testing.T) {
	line := strings.Repeat("ab", 1000)
	for _, p := range []api.Program{star(), of(match()), of(jump(0)), plain(t, `\(a\|b\)*$`)} {
		_, _, steps, e := nfa.Find(p, line, len(line))
		_, _, more, f := nfa.Longest(p, line, len(line))
		if most := 4 * len(p.Insts); e != api.OK || f != api.OK || steps < 1 || steps > most || more < 1 || more > most {
			t.Errorf("%v: %d, %v, and %d, %v: want 1 to %d", p, steps, e, more, f, most)
		}
	}
}

// TestStepsOfInstructions: P16.4, each is looked at once at each place: what there is to do grows as the program does.
func TestStepsOfInstructions(t *testing.T) {
	for _, count := range []int{1, 2, 10, 1000, api.MaxCode} {
		// A chain of jumps: all are come to, at all places.
		p := of()
		for at := range count - 1 {
			p.Insts = append(p.Insts, jump(at+1))
		}
		p.Insts = append(p.Insts, match())
		if _, _, steps, _ := nfa.Longest(p, "aa", 0); steps < count || steps > 12*count {
			t.Errorf("%d instructions: %d steps", count, steps)
		}
		finds(t, p, "aa", 1, api.Span{From: 1, To: 1})
		p.Insts[count-1] = jump(0)
		findsNone(t, p, "aa", 0)
		reachesNone(t, p, "aa", 0)
	}
}

// TestGreatestPrograms: P16.2 and P16.3, as many instructions as there may be.
func TestGreatestPrograms(t *testing.T) {
	bytes := of(many(only('a'), api.MaxCode-1, match())...)
	line := strings.Repeat("a", api.MaxCode-1)
	reaches(t, bytes, line, 0, api.MaxCode-1)
	reachesNone(t, bytes, line, 1)
	findsNone(t, bytes, line[:1000], 0)
	bytes.Insts[0] = begin()
	finds(t, bytes, line, 0, api.Span{From: 0, To: api.MaxCode - 2})
	findsNone(t, bytes, line, 1)
	opened := grouped(1, many(open(0), api.MaxCode-1, match())...)
	finds(t, opened, "ab", 2, api.Span{From: 2, To: 2})
	// Each split leads to the next one, and to the last but one: all ways read one byte there.
	fan := of()
	for at := range api.MaxCode - 2 {
		fan.Insts = append(fan.Insts, split(at+1, api.MaxCode-2))
	}
	fan.Insts = append(fan.Insts, only('b'), match())
	finds(t, fan, "aab", 0, api.Span{From: 2, To: 3})
	findsNone(t, fan, "aaa", 0)
}
