package back_test

import (
	"slices"
	"testing"

	"dredge/api"
	"dredge/back"
	"dredge/compile"
	"dredge/nfa"
	"dredge/parse"
	"dredge/relate"
)

// choices is all instructions of a few bytes and bounds that a program of so many, with one group and one counter, may have; at its end those alone that may stand there.
func choices(count int, last bool) []api.Inst {
	l := []api.Inst{match()}
	for x := range count {
		l = append(l, jump(x))
		for y := range count {
			if y < x {
				l = append(l, split(x, y))
			}
			for _, b := range [][2]int{{0, api.Infinite}, {1, 1}, {0, 1}, {2, 3}, {2, api.Infinite}} {
				l = append(l, turn(0, b[0], b[1], x, y))
			}
		}
	}
	if !last {
		l = append(l, only('a'), only('b'), only('a', 'b'), begin(), end(), open(0), closed(0), again(0), zero(0))
	}
	return l
}

// programsOf goes over all programs of so many of these choices.
func programsOf(count int) func(func(api.Program) bool) {
	return func(yield func(api.Program) bool) {
		insts := make([]api.Inst, count)
		fill(insts, 0, func() bool { return yield(of(1, 1, slices.Clone(insts)...)) })
	}
}

func fill(insts []api.Inst, at int, full func() bool) bool {
	if at == len(insts) {
		return full()
	}
	for _, in := range choices(len(insts), at == len(insts)-1) {
		insts[at] = in
		if !fill(insts, at+1, full) {
			return false
		}
	}
	return true
}

// TestSmallPrograms: P20.2 to P20.4, all programs of one and two instructions, many of three, some of four, in short lines.
func TestSmallPrograms(t *testing.T) {
	lines := linesOf([]string{"a", "b"}, 3)
	asked, matches := 0, 0
	for count := 1; count <= 2; count++ {
		for p := range programsOf(count) {
			for _, line := range lines {
				asked++
				matches += holds(t, p, line)
			}
		}
	}
	for p := range programsOf(3) {
		if asked++; asked%7 == 0 {
			matches += holds(t, p, lines[asked/7%len(lines)])
		}
	}
	next := numbers(4)
	inside, last := choices(4, false), choices(4, true)
	for range 20000 {
		p := of(1, 1, inside[next(len(inside))], inside[next(len(inside))], inside[next(len(inside))], last[next(len(last))])
		matches += holds(t, p, lines[next(len(lines))])
	}
	if asked < 100000 || matches < 5000 {
		t.Errorf("%d asked, %d matches", asked, matches)
	}
}

// TestMadePrograms: P20.2 to P20.4, programs of more instructions, groups and counters.
func TestMadePrograms(t *testing.T) {
	next := numbers(20)
	matches, none := 0, 0
	for range 20000 {
		p, line := madeProgram(next, 14), madeLine(next, 6)
		if n := holds(t, p, line); n > 0 {
			matches += n
		} else {
			none++
		}
	}
	if matches < 20000 || none < 1000 {
		t.Errorf("%d matches; in %d lines none", matches, none)
	}
}

// patterns is some, with and without references.
func patterns() []string {
	return []string{
		`\(a*\)\1`, `\(a*\)*\1`, `\(ab*\)\1`, `\(a\|ab\)\(c\|bcd\)`, `\(\(a\)\|b\)*\2`, `\(a\{0,1\}\)\{2\}b\1b`, `\(a*\)\(b*\)\2\1$`, `^\(.*\)\1$`,
		`\(\(a\|b\)*b\)*\2a`, `\(.\)\(.\)\2\1`, `\(a*b\)\{2,3\}\1`, `\(\(a*\)\2b\)*\1`, `\(^a\|b\)\1*`, `\(a\)\1\{0\}b`, `a\{2,3\}b*`, `\(\(a\{2\}\)*b\{1,\}\)\{2,\}`,
		`\(\(\(a\)*\|b\)\{2,3\}\)\3\2`, `\(a\{0,2\}\)*\1\{2\}b`, `\(a\|b\)*\1\|\(ab\)\2`, `\(x*\)*\1a`, `\(\(\)\2\)*\1b`, `\(a*\)\{3\}\1$`, `.*\(b\)\1`,
		`\(a*\)a*b\1$`, `\(a*\)\(b*\)[ab]*\2\1$`, `.*\(a*\)b\1b`,
	}
}

// TestPatterns: P20.2, what is told of a pattern's program is what chapter 00 says of the pattern.
func TestPatterns(t *testing.T) {
	lines := linesOf([]string{"a", "b"}, 6)
	for _, mode := range []api.Mode{{}, {Fold: true}} {
		for _, pattern := range patterns() {
			n, err := parse.Parse(pattern, mode)
			if err != nil {
				t.Fatalf("Parse(%q): %v", pattern, err)
			}
			p, e := compile.Counted(n, mode)
			if e != api.OK {
				t.Fatalf("Counted(%q): %v", pattern, e)
			}
			for _, line := range append(lines, "aAbBa", "AbaB", "BbAaaA", "aabbaabbaabb", "abAbaBabab") {
				b := made(t, p, false)
				slow := made(t, p, true)
				for from := range len(line) + 1 {
					part, found, e := relate.Find(n, line, from, mode)
					if e != api.OK {
						t.Fatalf("relate.Find(%q, %q, %d): %v", pattern, line, from, e)
					}
					for _, b := range []*back.Back{b, slow} {
						if got, there, e := b.Find(line, from); got != part || there != found || e != api.OK {
							t.Errorf("%q: Find(%q, %d): %v, %v, %v, want %v, %v", pattern, line, from, got, there, e, part, found)
						}
					}
				}
			}
		}
	}
}

// TestFollows: P20.5, the calls held against each other, and against chapter 16's.
func TestFollows(t *testing.T) {
	next := numbers(6)
	free := 0
	for range 3000 {
		p, line := madeProgram(next, 12), madeLine(next, 8)
		if next(2) == 0 {
			p.Insts = slices.DeleteFunc(p.Insts, func(in api.Inst) bool { return in.Op == api.OpBack || in.Op == api.OpZero || in.Op == api.OpTurn })
			for at := range p.Insts {
				p.Insts[at].X, p.Insts[at].Y = min(p.Insts[at].X, len(p.Insts)-1), min(p.Insts[at].Y, len(p.Insts)-1)
			}
			free++
			isNFA(t, p, line)
		}
		b := made(t, p, next(2) == 0)
		for from := range len(line) + 1 {
			part, found, _ := b.Find(line, from)
			first := from
			for ; first <= len(line); first++ {
				if to, reached, _ := b.Longest(line, first); reached {
					if part != (api.Span{From: first, To: to}) {
						t.Errorf("%v in %q: Find from %d: %v; Longest at %d: %d", p, line, from, part, first, to)
					}
					break
				}
			}
			if found != (first <= len(line)) {
				t.Errorf("%v in %q: Find from %d: %v, Longest first at %d", p, line, from, found, first)
			}
		}
	}
	if free < 1000 {
		t.Errorf("only %d free programs", free)
	}
}

// isNFA: P20.5, of a free program the answers are chapter 16's.
func isNFA(t *testing.T, p api.Program, line string) {
	t.Helper()
	for at := range len(line) + 1 {
		to, reached, _, e := nfa.Longest(p, line, at)
		part, found, _, f := nfa.Find(p, line, at)
		if e != api.OK || f != api.OK {
			t.Fatalf("%v: %v, %v", p, e, f)
		}
		for _, plain := range []bool{false, true} {
			b := made(t, p, plain)
			if x, ok, e := b.Longest(line, at); x != to || ok != reached || e != api.OK {
				t.Errorf("%v, %v: Longest(%q, %d): %d, %v, %v, want %d, %v", p, plain, line, at, x, ok, e, to, reached)
			}
			if x, ok, e := b.Find(line, at); x != part || ok != found || e != api.OK {
				t.Errorf("%v, %v: Find(%q, %d): %v, %v, %v, want %v, %v", p, plain, line, at, x, ok, e, part, found)
			}
		}
	}
}
