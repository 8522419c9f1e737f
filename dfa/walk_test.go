package dfa_test

import (
	"slices"
	"strings"
	"testing"

	"dredge/api"
	"dredge/nfa"
)

// TestSmallPrograms: P17.2 to P17.6, all programs of at most three instructions of a few bytes, in all short lines, one after the other by the same automata.
func TestSmallPrograms(t *testing.T) {
	lines := linesOf([]string{"a", "b"}, 3)
	programs, ends := 0, 0
	for count := 1; count <= 3; count++ {
		for p := range programsOf(count) {
			// Each room with some of the programs: all with all would be too many.
			programs++
			automata := []asked{ask(t, p, rooms()[programs%len(rooms())])}
			for _, line := range lines {
				ends += holdsAt(automata, line)
			}
		}
	}
	if programs < 1000 || ends < 10000 {
		t.Errorf("%d programs, %d ends", programs, ends)
	}
}

// TestSomeOfFour: P17.2 to P17.6, some of the programs of four instructions.
func TestSomeOfFour(t *testing.T) {
	lines := linesOf([]string{"a", "b"}, 4)
	count, ends := 0, 0
	for p := range programsOf(4) {
		if count++; count%31 == 0 {
			ends += holds(t, p, lines[count/31%len(lines)])
		}
	}
	if ends < 1000 {
		t.Errorf("of %d programs: %d ends", count, ends)
	}
}

// TestMadePrograms: P17.2 to P17.6, programs of many instructions, each in several lines, so that what was kept of one is used in the next.
func TestMadePrograms(t *testing.T) {
	next := numbers(17)
	ends, none := 0, 0
	for range 2000 {
		p := made(next, 30)
		var automata []asked
		for _, room := range rooms() {
			automata = append(automata, ask(t, p, room))
		}
		for range 3 {
			if n := holdsAt(automata, madeLine(next, 10)); n > 0 {
				ends += n
			} else {
				none++
			}
		}
	}
	if ends < 4000 || none < 1000 {
		t.Errorf("%d ends; in %d lines none", ends, none)
	}
}

// TestAnyOrder: P17.2 and P4, calls in any order, at any places of any lines: each as if nothing had been asked.
func TestAnyOrder(t *testing.T) {
	next := numbers(99)
	for range 200 {
		p := made(next, 20)
		lines := []string{madeLine(next, 8), madeLine(next, 8), madeLine(next, 3)}
		a := ask(t, p, 2+next(6))
		for range 40 {
			line := lines[next(len(lines))]
			at := next(len(line) + 1)
			fresh := ask(t, p, 1000)
			switch next(4) {
			case 0:
				a.refuses(line, []int{-1, len(line) + 1}[next(2)])
			case 1:
				to, found, _ := fresh.Longest(line, at)
				if !found {
					to = -1
				}
				a.longest(line, at, to)
			default:
				l, _ := fresh.Ends(line, at)
				a.ends(line, at, l...)
			}
		}
	}
}

// TestFollows: P17.6, the calls held against each other, and against one that keeps nothing (chapter 16).
func TestFollows(t *testing.T) {
	next := numbers(5)
	for range 800 {
		p, line := made(next, 25), madeLine(next, 12)
		a := ask(t, p, 2+next(5))
		var behind []int
		for at := len(line); at >= 0; at-- {
			ends, _ := a.Ends(line, at)
			last, found, _ := a.Longest(line, at)
			if want, reached, _, _ := nfa.Longest(p, line, at); last != want || found != reached {
				t.Errorf("%v in %q at %d: %d, %v, by sets of places %d, %v", p, line, at, last, found, want, reached)
			}
			if found && !slices.Contains(ends, last) {
				t.Errorf("%v in %q at %d: %d is none of %v", p, line, at, last, ends)
			}
			for _, to := range behind {
				if !slices.Contains(ends, to) {
					t.Errorf("%v in %q at %d: %d, from the next place on, is none of %v", p, line, at, to, ends)
				}
			}
			if any, some, _ := a.Any(line, at); some != (len(ends) > 0) || some && any != ends[0] {
				t.Errorf("%v in %q at %d: %d, %v; all are %v", p, line, at, any, some, ends)
			}
			behind = ends
		}
	}
}

// TestPatterns: P17.2 and P17.6, programs of patterns, at each room up to one in which all states are kept.
func TestPatterns(t *testing.T) {
	lines := linesOf([]string{"a", "b"}, 5)
	for _, pattern := range []string{
		`a*`, `ab*a`, `\(a\|b\)*b`, `\(ab\|a\)\(b*\)`, `^a*$`, `a\{2,3\}`, `\(a\{0,1\}b\)\{2\}`, `b$\|^a`, `\(a*\)*b`, `[^a]a\?`, `\(a*b\)\{2,\}`, `\(^a\|b\)*$`, `[ab]*a[ab][ab]`,
	} {
		p := plain(t, pattern)
		var automata []asked
		for room := 2; room < 20; room++ {
			automata = append(automata, ask(t, p, room))
		}
		for _, line := range lines {
			holdsAt(automata, line)
		}
	}
}

// TestLongLines: P17.2 to P17.5, in lines that are much longer than what is kept.
func TestLongLines(t *testing.T) {
	next := numbers(1)
	bytes := make([]byte, 20000)
	for i := range bytes {
		// The lowest bit alone would come round too soon.
		bytes[i] = byte('a' + next(1000)/500)
	}
	line := string(bytes)
	p := plain(t, `[ab]*a[ab]\{9\}`)
	last := strings.LastIndexByte(line[:len(line)-9], 'a') + 10
	var ends []int
	for to := 10; to <= len(line); to++ {
		// Some part that ends here is matched, if the byte ten ahead is an a.
		if line[to-10] == 'a' {
			ends = append(ends, to)
		}
	}
	for _, room := range []int{2, 3, 100, 1023, 5000} {
		a := ask(t, p, room)
		a.longest(line, 0, last)
		a.ends(line, 0, ends...)
		if room <= 1023 && a.Flushes() == 0 || room == 5000 && a.Flushes() > 0 {
			t.Errorf("room %d: %d flushes", room, a.Flushes())
		}
	}
	for _, p := range []api.Program{plain(t, `b*`), of(match()), of(end(), match()), of(jump(0))} {
		for _, room := range []int{2, 1000} {
			a := ask(t, p, room)
			l, _ := a.Ends(line, 0)
			a.ends(line, 0, l...)
			a.ends(line, 19000, l[max(0, len(l)-1001):]...)
		}
	}
}
