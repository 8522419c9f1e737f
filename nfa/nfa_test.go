package nfa_test

import (
	"math"
	"slices"
	"strings"
	"testing"

	"dredge/api"
	"dredge/nfa"
)

// star matches any number of a's.
func star() api.Program { return of(split(1, 3), only('a'), jump(0), match()) }

// TestExamplesOfLongest: P16.1 and P16.2, the chapter's.
func TestExamplesOfLongest(t *testing.T) {
	p := read(t, "program 0 0\nsplit 1 3\nbyte 61\njump 0\nmatch\n")
	reaches(t, p, "aab", 0, 2)
	reaches(t, p, "aab", 2, 2)
	refuses(t, p, "aab", 4, api.ErrArg)
}

// TestExamplesOfFind: P16.1 and P16.3, the chapter's.
func TestExamplesOfFind(t *testing.T) {
	one := read(t, "program 0 0\nbyte 61\nmatch\n")
	finds(t, one, "bab", 0, api.Span{From: 1, To: 2})
	findsNone(t, one, "bab", 2)
	early := read(t, "program 0 0\nsplit 1 3\nbyte 61\nbyte 62\nbyte 62\nbyte 63\nmatch\n")
	finds(t, early, "abbc", 0, api.Span{From: 0, To: 4})
	findsNone(t, read(t, "program 0 0\njump 0\n"), "a", 0)
	refuses(t, read(t, "program 1 0\nback 0\nmatch\n"), "a", 0, api.ErrRefs)
}

// TestWrongPrograms: P16.1, Right's errors, ahead of all others.
func TestWrongPrograms(t *testing.T) {
	for _, c := range []struct {
		p api.Program
		e api.Errno
	}{
		{api.Program{}, api.ErrCode},
		{of(many(match(), api.MaxCode+1)...), api.ErrMany},
		{of(many(api.Inst{}, api.MaxCode+1)...), api.ErrMany},
		{grouped(api.MaxGroups+1, match()), api.ErrArg},
		{grouped(-1, match()), api.ErrArg},
		{api.Program{Insts: []api.Inst{match()}, Counters: api.MaxCounters + 1}, api.ErrArg},
		{api.Program{Insts: []api.Inst{match()}, Counters: -1}, api.ErrArg},
		{of(only('a')), api.ErrCode},
		{of(only('a'), open(0)), api.ErrCode},
		{of(match(), begin()), api.ErrCode},
		{of(match(), end()), api.ErrCode},
		{of(jump(1)), api.ErrCode},
		{of(jump(-1)), api.ErrCode},
		{of(split(0, 1)), api.ErrCode},
		{of(split(math.MaxInt, 0)), api.ErrCode},
		{of(split(0, math.MinInt)), api.ErrCode},
		{of(open(0), match()), api.ErrCode},
		{grouped(1, closed(1), match()), api.ErrCode},
		{of(api.Inst{Op: api.OpMatch + 1}), api.ErrCode},
		{of(api.Inst{Op: math.MinInt}), api.ErrCode},
		{of(api.Inst{Op: api.OpMatch, X: 1}, match()), api.ErrCode},
		{of(match(), api.Inst{}), api.ErrCode},
		// Not free either.
		{of(api.Inst{Op: api.OpBack}, match()), api.ErrCode},
		{grouped(1, api.Inst{Op: api.OpBack}), api.ErrCode},
		{api.Program{Insts: []api.Inst{{Op: api.OpTurn, Min: 2, Max: 1}}, Counters: 1}, api.ErrCode},
		{grouped(31, api.Inst{Op: api.OpBack}, match()), api.ErrArg},
	} {
		for _, place := range []int{0, 1, 2, -1, math.MaxInt} {
			refuses(t, c.p, "a", place, c.e)
		}
	}
}

// TestNotFree: P16.1, ahead of a wrong place; whether one comes to the instruction or not.
func TestNotFree(t *testing.T) {
	for _, in := range []api.Inst{
		{Op: api.OpBack},
		{Op: api.OpZero},
		{Op: api.OpTurn, Max: api.Infinite},
		{Op: api.OpTurn, Min: 1, Max: 1},
	} {
		for _, p := range []api.Program{of(in, match()), of(match(), in, match()), of(jump(2), in, match())} {
			p.Groups, p.Counters = 1, 1
			for _, place := range []int{0, 1, 2, -1, math.MinInt} {
				refuses(t, p, "a", place, api.ErrRefs)
			}
		}
	}
}

// TestWrongPlaces: P16.1, the last of the errors.
func TestWrongPlaces(t *testing.T) {
	for _, line := range []string{"", "a", "aab", strings.Repeat("a", 1000)} {
		for _, place := range []int{-1, -2, math.MinInt, math.MinInt32, len(line) + 1, len(line) + 2, math.MaxInt32, math.MaxInt} {
			refuses(t, star(), line, place, api.ErrArg)
			refuses(t, of(jump(0)), line, place, api.ErrArg)
		}
		reaches(t, star(), line, len(line), len(line))
		finds(t, star(), line, len(line), api.Span{From: len(line), To: len(line)})
	}
}

// TestEachOperation: P16.2 and P16.3, what each instruction leads to, by itself.
func TestEachOperation(t *testing.T) {
	for _, c := range []struct {
		p    api.Program
		line string
		ends []int // up to where from each place; -1: nowhere
	}{
		{of(match()), "ab", []int{0, 1, 2}},
		{of(match()), "", []int{0}},
		{of(only('a'), match()), "aba", []int{1, -1, 3, -1}},
		{of(only(), match()), "aba", []int{-1, -1, -1, -1}},
		{of(only('a', 'b'), match()), "abc", []int{1, 2, -1, -1}},
		{of(split(1, 3), only('a'), match(), only('b'), match()), "abc", []int{1, 2, -1, -1}},
		{of(split(1, 1), match()), "a", []int{0, 1}},
		{of(split(0, 1), match()), "a", []int{0, 1}},
		{of(split(1, 0), match()), "a", []int{0, 1}},
		{of(split(0, 0)), "a", []int{-1, -1}},
		{of(jump(2), match(), only('a'), jump(1)), "ab", []int{1, -1, -1}},
		{of(begin(), match()), "ab", []int{0, -1, -1}},
		{of(begin(), match()), "", []int{0}},
		{of(end(), match()), "ab", []int{-1, -1, 2}},
		{of(end(), match()), "", []int{0}},
		{of(begin(), end(), match()), "", []int{0}},
		{of(begin(), end(), match()), "a", []int{-1, -1}},
		{of(only('a'), begin(), match()), "aa", []int{-1, -1, -1}},
		{of(only('a'), end(), match()), "aa", []int{-1, 2, -1}},
		{of(end(), only('a'), match()), "aa", []int{-1, -1, -1}},
		{of(begin(), only('a'), end(), match()), "a", []int{1, -1}},
		{grouped(2, closed(1), open(0), only('a'), closed(0), match()), "aa", []int{1, 2, -1}},
		{grouped(1, open(0), open(0), match()), "a", []int{0, 1}},
	} {
		best := api.Span{From: -1}
		for at, to := range slices.Backward(c.ends) {
			if to < 0 {
				reachesNone(t, c.p, c.line, at)
			} else {
				reaches(t, c.p, c.line, at, to)
				best = api.Span{From: at, To: to}
			}
			if best.From < 0 {
				findsNone(t, c.p, c.line, at)
			} else {
				finds(t, c.p, c.line, at, best)
			}
		}
	}
}

// TestLineFeeds: P16.2, the line begins at 0 and ends at its length alone.
func TestLineFeeds(t *testing.T) {
	reachesNone(t, of(begin(), match()), "\na", 1)
	reachesNone(t, of(end(), match()), "a\n", 1)
	finds(t, of(end(), match()), "a\nb\n", 0, api.Span{From: 4, To: 4})
	findsNone(t, of(begin(), only('b'), match()), "a\nb", 0)
	finds(t, of(only('\n'), only('b'), match()), "a\nb", 0, api.Span{From: 1, To: 3})
}

// TestAllBytes: P16.2, each byte by itself and beside its neighbours.
func TestAllBytes(t *testing.T) {
	var all [256]byte
	for b := range all {
		all[b] = byte(b)
	}
	line := string(all[:])
	for b := range all {
		p := of(only(b), match())
		finds(t, p, line, 0, api.Span{From: b, To: b + 1})
		findsNone(t, p, line, b+1)
		reachesNone(t, p, line, (b+1)%256)
		reachesNone(t, p, line, (b+64)%256)
	}
}

// TestBytesAlone: P16.2, programs know no characters: places within one count, and folding is none of OpByte's.
func TestBytesAlone(t *testing.T) {
	finds(t, of(only(0xa9), match()), "é", 0, api.Span{From: 1, To: 2})
	reaches(t, of(match()), "é", 1, 1)
	p := of(only('a'), match())
	p.Fold = true
	finds(t, p, "Aa", 0, api.Span{From: 1, To: 2})
}

// TestRoundWithoutBytes: P16.2, a program that goes round without bytes.
func TestRoundWithoutBytes(t *testing.T) {
	for _, p := range []api.Program{
		of(split(1, 2), jump(0), match()),
		of(split(1, 3), split(0, 2), jump(1), match()),
		grouped(1, open(0), closed(0), split(0, 3), match()),
	} {
		holds(t, p, "ab")
	}
	findsNone(t, of(jump(1), jump(2), jump(0)), "abc", 0)
	findsNone(t, of(split(1, 2), split(2, 0), split(0, 1)), "abc", 0)
}

// TestLongestGoesOn: P16.2, behind a match and where some have nothing left.
func TestLongestGoesOn(t *testing.T) {
	// a, or abcd: between 1 and 4 there is no match.
	p := of(split(1, 3), only('a'), match(), only('a'), only('b'), only('c'), only('d'), match())
	reaches(t, p, "abcd", 0, 4)
	reaches(t, p, "abcx", 0, 1)
	reaches(t, p, "abc", 0, 1)
	p.Insts[0] = split(3, 1)
	reaches(t, p, "abcd", 0, 4)
	reaches(t, p, "abcx", 0, 1)
}

// TestHandedIn: P3, nothing is written into, nor behind it.
func TestHandedIn(t *testing.T) {
	p := star()
	p.Insts = append(make([]api.Inst, 0, 9), p.Insts...)
	whole := p.Insts[:9]
	for i := len(p.Insts); i < len(whole); i++ {
		whole[i] = only(i)
	}
	before := slices.Clone(whole)
	reaches(t, p, "aab", 0, 2)
	finds(t, p, "baab", 1, api.Span{From: 1, To: 3})
	if !slices.Equal(whole, before) {
		t.Errorf("the instructions were %v, and are %v", before, whole)
	}
}

// TestNothingKept: P4, a call answers as it did, whatever was asked between.
func TestNothingKept(t *testing.T) {
	type answer struct {
		part         api.Span
		found        bool
		steps, to    int
		reached      bool
		longestSteps int
	}
	ask := func(p api.Program, line string) answer {
		part, found, steps, _ := nfa.Find(p, line, 0)
		to, reached, more, _ := nfa.Longest(p, line, 0)
		return answer{part, found, steps, to, reached, more}
	}
	next := numbers(3)
	var programs []api.Program
	var lines []string
	var first []answer
	for range 50 {
		p, line := made(next, 12), madeLine(next, 8)
		programs, lines, first = append(programs, p), append(lines, line), append(first, ask(p, line))
	}
	for i, p := range programs {
		if again := ask(p, lines[i]); again != first[i] {
			t.Errorf("%v in %q: %v, then %v", p, lines[i], first[i], again)
		}
	}
}
