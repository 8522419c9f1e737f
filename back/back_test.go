package back_test

import (
	"math"
	"slices"
	"strings"
	"testing"

	"dredge/api"
	"dredge/back"
)

// twice is any number of a's, twice.
func twice() api.Program {
	return of(1, 0, open(0), split(2, 4), only('a'), jump(1), closed(0), again(0), match())
}

// TestExamples: P20.1 and P20.2, the chapter's.
func TestExamples(t *testing.T) {
	p := read(t, "program 1 0\nopen 0\nsplit 2 4\nbyte 61\njump 1\nclose 0\nback 0\nmatch\n")
	reaches(t, p, "aaaaa", 0, 4)
	reaches(t, p, "aaaaa", 3, 5)
	finds(t, p, "baab", 1, api.Span{From: 1, To: 3})
	finds(t, p, "baab", 0, api.Span{})
	p = read(t, "program 0 1\nzero 0\nturn 0 2 3 2 4\nbyte 61\njump 1\nmatch\n")
	reaches(t, p, "aaaa", 0, 3)
	reachesNone(t, p, "a", 0)
	reachesNone(t, read(t, "program 0 0\njump 0\n"), "a", 0)
	findsNone(t, read(t, "program 0 0\njump 0\n"), "a", 0)
	reachesNone(t, read(t, "program 1 0\nback 0\nmatch\n"), "", 0)
	refuses(t, p, "a", 2)
}

// refuses: plain or not, both calls answer ErrArg and nothing else, and no later call can tell.
func refuses(t *testing.T, p api.Program, line string, place int) {
	t.Helper()
	for _, plain := range []bool{false, true} {
		b := made(t, p, plain)
		for range 2 {
			steps, kept := b.Steps(), b.Kept()
			if to, found, e := b.Longest(line, place); to != 0 || found || e != api.ErrArg {
				t.Errorf("Longest(%q, %d): %d, %v, %v", line, place, to, found, e)
			}
			if part, found, e := b.Find(line, place); part != (api.Span{}) || found || e != api.ErrArg {
				t.Errorf("Find(%q, %d): %v, %v, %v", line, place, part, found, e)
			}
			if b.Steps() != steps || b.Kept() != kept {
				t.Errorf("%q, %d: it was refused, and did something", line, place)
			}
			b.Find("aa", 0)
		}
	}
}

// TestWrongPlaces: P20.2, all numbers that are no places.
func TestWrongPlaces(t *testing.T) {
	for _, p := range []api.Program{twice(), of(0, 0, match()), of(0, 0, jump(0))} {
		for _, line := range []string{"", "a", "aaaa", "\xc3\xa9"} {
			for _, place := range []int{-1, -2, len(line) + 1, len(line) + 2, math.MinInt, math.MaxInt} {
				refuses(t, p, line, place)
			}
		}
	}
}

// TestPlacesAreBytes: P20.2, within a character there are places, too, and of all bytes.
func TestPlacesAreBytes(t *testing.T) {
	reaches(t, of(0, 0, only(0xa9), match()), "é", 1, 2)
	reaches(t, of(0, 0, match()), "é", 1, 1)
	finds(t, of(0, 0, only(0xa9), match()), "é", 0, api.Span{From: 1, To: 2})
	finds(t, of(0, 0, only(0), only(255), match()), "\xff\x00\xff", 0, api.Span{From: 1, To: 3})
	for b := range 256 {
		line := string([]byte{byte(b)})
		reaches(t, of(0, 0, only(b), match()), line, 0, 1)
		reachesNone(t, of(0, 0, only((b+1)%256, (b+64)%256, (b+128)%256), match()), line, 0)
	}
}

// TestWrongPrograms: P20.1, Right's errors.
func TestWrongPrograms(t *testing.T) {
	for _, c := range []struct {
		p api.Program
		e api.Errno
	}{
		{api.Program{}, api.ErrCode},
		{of(0, 0, many(match(), api.MaxCode+1)...), api.ErrMany},
		{of(-1, 0, many(api.Inst{}, api.MaxCode+1)...), api.ErrMany},
		{of(api.MaxGroups+1, 0, match()), api.ErrArg},
		{of(-1, 0, match()), api.ErrArg},
		{of(0, api.MaxCounters+1, match()), api.ErrArg},
		{of(0, -1), api.ErrArg},
		{of(0, 0, only('a')), api.ErrCode},
		{of(0, 0, jump(1)), api.ErrCode},
		{of(0, 0, jump(-1)), api.ErrCode},
		{of(0, 0, split(0, math.MaxInt)), api.ErrCode},
		{of(0, 0, open(0), match()), api.ErrCode},
		{of(1, 0, closed(1), match()), api.ErrCode},
		{of(1, 0, again(-1), match()), api.ErrCode},
		{of(1, 0, again(0)), api.ErrCode},
		{of(0, 1, zero(0)), api.ErrCode},
		{of(0, 1, zero(1), match()), api.ErrCode},
		{of(0, 1, turn(1, 0, 0, 0, 0)), api.ErrCode},
		{of(0, 1, turn(0, 2, 1, 0, 0)), api.ErrCode},
		{of(0, 1, turn(0, 256, api.Infinite, 0, 0)), api.ErrCode},
		{of(0, 1, turn(0, 0, 256, 0, 0)), api.ErrCode},
		{of(0, 1, turn(0, 0, 0, 0, 1)), api.ErrCode},
		{of(0, 0, api.Inst{Op: api.OpMatch, N: 1}), api.ErrCode},
		{of(0, 0, match(), api.Inst{}), api.ErrCode},
		{of(0, 0, api.Inst{Op: math.MinInt}), api.ErrCode},
	} {
		for _, plain := range []bool{false, true} {
			if b, e := back.New(c.p, plain); b != nil || e != c.e {
				t.Errorf("New(%v, %v): %v, %v, want %v", brief(c.p), plain, b, e, c.e)
			}
		}
	}
}

// TestIsNotKept: P20.1 and P3, what is handed in is neither kept nor written into.
func TestIsNotKept(t *testing.T) {
	all := append(of(1, 1, open(0), only('a'), closed(0), zero(0), turn(0, 1, 2, 5, 7), again(0), jump(4), match()).Insts, match(), api.Inst{Op: 77})
	p := of(3, 3, all[:8]...)
	// A group that nobody refers to, and a counter without turns.
	p.Insts[1], p.Insts[3] = open(2), zero(2)
	before := slices.Clone(all)
	for _, plain := range []bool{false, true} {
		b := made(t, p, plain)
		b.Longest("aaa", 0)
		b.Find("aaa", 0)
		if !slices.Equal(all, before) {
			t.Fatalf("%v, want %v", all, before)
		}
		clear(all)
		to, found, _ := b.Longest("aaa", 1)
		copy(all, before)
		if want, there, _ := made(t, p, plain).Longest("aaa", 1); to != want || found != there {
			t.Errorf("%v: %d, %v, want %d, %v", plain, to, found, want, there)
		}
	}
}

// TestAnchors: P20.2, of OpBegin and OpEnd: Find's place is none of the line's ends.
func TestAnchors(t *testing.T) {
	p := of(0, 0, begin(), only('a'), match())
	finds(t, p, "aa", 0, api.Span{To: 1})
	findsNone(t, p, "aa", 1)
	findsNone(t, p, "ba", 0)
	p = of(0, 0, only('a'), end(), match())
	finds(t, p, "aa", 0, api.Span{From: 1, To: 2})
	findsNone(t, p, "ab", 0)
	reachesNone(t, p, "aa", 0)
	finds(t, of(0, 0, begin(), end(), match()), "", 0, api.Span{})
	findsNone(t, of(0, 0, begin(), end(), match()), "a", 0)
	finds(t, of(0, 0, end(), match()), "aaa", 0, api.Span{From: 3, To: 3})
}

// TestLongestOfAll: P20.2, all ways are gone, whichever comes first; what begins first goes ahead of what is longer.
func TestLongestOfAll(t *testing.T) {
	for _, first := range []api.Inst{split(1, 3), split(3, 1)} {
		p := of(0, 0, first, only('a'), match(), only('a'), only('b'), only('c'), match())
		reaches(t, p, "abc", 0, 3)
		reaches(t, p, "abd", 0, 1)
		finds(t, p, "babdabc", 0, api.Span{From: 1, To: 2})
		finds(t, p, "babdabc", 2, api.Span{From: 4, To: 7})
	}
	// Three ways to the same place.
	p := of(0, 0, split(1, 2), split(3, 5), split(5, 3), only('a'), jump(6), only('a', 'b'), only('c'), match())
	reaches(t, p, "ac", 0, 2)
	reaches(t, p, "bc", 0, 2)
	reachesNone(t, p, "cc", 0)
}

// TestGroups: P20.2, of OpOpen, OpClose and OpBack by chapter 14's table.
func TestGroups(t *testing.T) {
	// A group that has begun nowhere has a part without bytes, where it ends.
	reaches(t, of(1, 0, only('a'), closed(0), again(0), match()), "aa", 0, 1)
	// It keeps where it began through its end, and the part from there is a longer one.
	reaches(t, of(1, 0, open(0), only('a'), closed(0), only('b'), closed(0), again(0), match()), "abab", 0, 4)
	reachesNone(t, of(1, 0, open(0), only('a'), closed(0), only('b'), closed(0), again(0), match()), "aba", 0)
	// Having begun alone is no part; and the part of before is there till it ends anew.
	reachesNone(t, of(1, 0, open(0), only('a'), again(0), match()), "aa", 0)
	reaches(t, of(1, 0, open(0), only('a'), closed(0), open(0), only('b'), again(0), match()), "aba", 0, 3)
	reachesNone(t, of(1, 0, open(0), only('a'), closed(0), open(0), only('b'), closed(0), again(0), match()), "aba", 0)
	// It ends where it began.
	reaches(t, of(1, 0, open(0), closed(0), again(0), again(0), match()), "", 0, 0)
	// Two groups, one within the other, by numbers with gaps.
	p := of(30, 0, open(29), only('a'), open(3), only('b'), closed(3), closed(29), again(3), again(29), match())
	reaches(t, p, "abbab", 0, 5)
	reachesNone(t, p, "ababb", 0)
	// Whether there is a part hangs on the way.
	p = of(1, 0, split(1, 4), open(0), only('a'), closed(0), again(0), match())
	finds(t, p, "abaa", 0, api.Span{From: 2, To: 4})
	findsNone(t, p, "aba", 0)
}

// TestFold: P20.2, with Fold the letters A to Z alone are alike in both cases; without it none are. What an OpByte reads is not folded.
func TestFold(t *testing.T) {
	p := of(1, 0, open(0), every(), closed(0), again(0), match())
	line := make([]byte, 2)
	for a := range 256 {
		for b := range 256 {
			line[0], line[1] = byte(a), byte(b)
			letters := strings.IndexByte("abcdefghijklmnopqrstuvwxyz", byte(a|32)) >= 0 && a < 128 && a|32 == b|32
			for _, fold := range []bool{false, true} {
				p.Fold = fold
				m, _ := back.New(p, a%2 == b%2)
				if _, found, e := m.Longest(string(line), 0); found != (a == b || fold && letters) || e != api.OK {
					t.Fatalf("%v: %d and %d: %v", fold, a, b, found)
				}
			}
		}
	}
	reachesNone(t, folded(of(0, 0, only('a'), match())), "A", 0)
	p = folded(of(1, 0, open(0), every(), every(), every(), every(), closed(0), again(0), match()))
	reaches(t, p, "aBc1AbC1", 0, 8)
	reachesNone(t, p, "aBc1AbD1", 0)
	// The byte of é in UTF-8 and that of É are none of these letters.
	reachesNone(t, folded(of(1, 0, open(0), every(), every(), closed(0), again(0), match())), "éÉ", 0)
}

// TestTurns: P20.2, of OpZero and OpTurn by chapter 14's table.
func TestTurns(t *testing.T) {
	loop := func(least, most int) api.Program {
		return of(0, 1, zero(0), turn(0, least, most, 2, 4), only('a'), jump(1), match())
	}
	line := strings.Repeat("a", 600)
	for _, c := range [][3]int{{0, 0, 0}, {0, 1, 1}, {1, 1, 1}, {2, 3, 3}, {0, 255, 255}, {255, 255, 255}, {254, 255, 255}, {0, -1, 600}, {255, -1, 600}, {3, -1, 600}} {
		p := loop(c[0], c[1])
		reaches(t, p, line, 0, c[2])
		reaches(t, p, line, 600-c[0], 600)
		if c[0] > 0 {
			reachesNone(t, p, line, 601-c[0])
		}
		// No counter has had a turn at the beginning: so without OpZero it is the same.
		p.Insts[0] = jump(1)
		reaches(t, p, line, 0, c[2])
		if part, found, e := made(t, p, false).Find("b"+line[:c[0]], 0); part != (api.Span{From: min(c[0], 1), To: min(c[0], 1) + c[0]}) || !found || e != api.OK {
			t.Errorf("%v: %v, %v, %v", c, part, found, e)
		}
	}
	// Turns without bytes: the first Min ones.
	reaches(t, of(0, 1, zero(0), turn(0, 2, api.Infinite, 2, 3), jump(1), match()), "", 0, 0)
	reaches(t, of(0, 1, zero(0), turn(0, 255, 255, 2, 3), jump(1), match()), "a", 1, 1)
	reachesNone(t, of(0, 1, zero(0), turn(0, 1, api.Infinite, 1, 2), split(1, 3), end(), match()), "aa", 0)
	// A turn behind the first Min ones that had no bytes leads nowhere, not to Y either.
	reachesNone(t, of(1, 1, turn(0, 0, 1, 1, 4), open(0), closed(0), jump(0), again(0), match()), "", 0)
	reaches(t, of(1, 1, turn(0, 1, 1, 1, 4), open(0), closed(0), jump(0), again(0), match()), "", 0, 0)
	// OpZero takes the turns away, and where the last one began.
	reaches(t, of(0, 1, turn(0, 0, 1, 1, 4), zero(0), split(0, 3), only('a'), match()), "a", 0, 1)
	reaches(t, of(0, 1, turn(0, 0, 2, 1, 4), only('a'), split(0, 3), zero(0), turn(0, 2, 2, 5, 7), only('a'), jump(4), match()), "aaaaa", 0, 4)
}

// TestCountersOfSeveralTurns: P20.2, OpTurns of one counter with other bounds: how many turns there were above the lesser bound makes a difference to the greater one.
func TestCountersOfSeveralTurns(t *testing.T) {
	// At most 2 or any number of turns, and then, by the same counter, least and most for the a's that follow.
	for _, first := range [][2]int{{0, 2}, {0, api.Infinite}, {1, 3}} {
		for _, second := range [][2]int{{0, 1}, {1, api.Infinite}, {4, 6}, {5, api.Infinite}, {3, 3}} {
			p := of(0, 1, turn(0, first[0], first[1], 1, 3), only('a'), jump(0), only('b'), turn(0, second[0], second[1], 5, 7), only('a'), jump(4), end(), match())
			for _, line := range linesOf([]string{"a", "b"}, 4) {
				holds(t, p, line)
			}
			for _, line := range []string{"aaab", "aaaaab", "aabaaaa", "aaaabaaaa", "baaaaaa", "ba", "aaaaaaabaa"} {
				holds(t, p, line)
			}
		}
	}
}

// TestAnyOrder: P20.2, what was asked ahead does not show.
func TestAnyOrder(t *testing.T) {
	next := numbers(12)
	for range 300 {
		p := madeProgram(next, 12)
		for _, plain := range []bool{false, true} {
			b := made(t, p, plain)
			for range 30 {
				line := madeLine(next, 7)
				at := next(len(line) + 1)
				fresh := made(t, p, plain)
				part, found, _ := b.Find(line, at)
				if want, there, _ := fresh.Find(line, at); part != want || found != there {
					t.Fatalf("%v, %v: Find(%q, %d): %v, %v, want %v, %v", p, plain, line, at, part, found, want, there)
				}
				to, found, _ := b.Longest(line, at)
				if want, there, _ := fresh.Longest(line, at); to != want || found != there {
					t.Fatalf("%v, %v: Longest(%q, %d): %v, %v, want %v, %v", p, plain, line, at, to, found, want, there)
				}
			}
		}
	}
}
