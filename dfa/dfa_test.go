package dfa_test

import (
	"math"
	"slices"
	"strings"
	"testing"

	"dredge/api"
	"dredge/dfa"
)

// TestExamples: P17.2, the chapter's.
func TestExamples(t *testing.T) {
	a := ask(t, read(t, "program 0 0\nsplit 1 3\nbyte 61\njump 0\nmatch\n"), 2)
	a.longest("aab", 0, 2)
	a.ends("aab", 1, 1, 2, 3)
	a.ends("aab", 2, 2, 3)
	a.refuses("aab", -1)
	a.refuses("aab", 4)
	a = ask(t, read(t, "program 0 0\nbyte 61\nmatch\n"), 9)
	a.ends("bab", 0, 2)
	a.ends("bab", 2)
	a.ends("aba", 0, 1, 3)
}

// refusesNew: New tells an error, and nothing beside it.
func refusesNew(t *testing.T, p api.Program, room int, want api.Errno) {
	t.Helper()
	if d, e := dfa.New(p, room); d != nil || e != want {
		t.Errorf("New(%v, %d): %v, %v, want %v", brief(p), room, d, e, want)
	}
}

// TestWrongPrograms: P17.1, Right's errors, ahead of all others.
func TestWrongPrograms(t *testing.T) {
	for _, c := range []struct {
		p api.Program
		e api.Errno
	}{
		{api.Program{}, api.ErrCode},
		{of(many(match(), api.MaxCode+1)...), api.ErrMany},
		{of(many(api.Inst{}, api.MaxCode+1)...), api.ErrMany},
		{grouped(api.MaxGroups+1, match()), api.ErrArg},
		{grouped(-1, match()), api.ErrArg},
		{api.Program{Insts: []api.Inst{match()}, Counters: api.MaxCounters + 1}, api.ErrArg},
		{api.Program{Insts: []api.Inst{match()}, Counters: -1}, api.ErrArg},
		{of(only('a')), api.ErrCode},
		{of(only('a'), open(0)), api.ErrCode},
		{of(match(), begin()), api.ErrCode},
		{of(match(), end()), api.ErrCode},
		{of(jump(1)), api.ErrCode},
		{of(jump(-1)), api.ErrCode},
		{of(split(math.MaxInt, 0)), api.ErrCode},
		{of(split(0, math.MinInt)), api.ErrCode},
		{of(open(0), match()), api.ErrCode},
		{grouped(1, closed(1), match()), api.ErrCode},
		{of(api.Inst{Op: api.OpMatch + 1}), api.ErrCode},
		{of(api.Inst{Op: api.OpMatch, X: 1}, match()), api.ErrCode},
		{of(match(), api.Inst{}), api.ErrCode},
		// Not free either.
		{of(api.Inst{Op: api.OpBack}, match()), api.ErrCode},
		{api.Program{Insts: []api.Inst{{Op: api.OpTurn, Min: 2, Max: 1}}, Counters: 1}, api.ErrCode},
		{grouped(31, api.Inst{Op: api.OpBack}, match()), api.ErrArg},
	} {
		for _, room := range []int{2, 1, -1, api.MaxRoom + 1} {
			refusesNew(t, c.p, room, c.e)
		}
	}
}

// TestNotFree: P17.1, ahead of a wrong room; whether one comes to the instruction or not.
func TestNotFree(t *testing.T) {
	for _, in := range []api.Inst{
		{Op: api.OpBack},
		{Op: api.OpZero},
		{Op: api.OpTurn, Max: api.Infinite},
		{Op: api.OpTurn, Min: 1, Max: 1},
	} {
		for _, p := range []api.Program{of(in, match()), of(match(), in, match()), of(jump(2), in, match())} {
			p.Groups, p.Counters = 1, 1
			for _, room := range []int{2, 1, 0, math.MinInt} {
				refusesNew(t, p, room, api.ErrRefs)
			}
		}
	}
}

// TestWrongRooms: P17.1, the last of the errors.
func TestWrongRooms(t *testing.T) {
	for _, room := range []int{math.MinInt, -2, -1, 0, 1, api.MaxRoom + 1, math.MaxInt32, math.MaxInt} {
		refusesNew(t, star(), room, api.ErrArg)
		refusesNew(t, of(jump(0)), room, api.ErrArg)
	}
	for _, room := range []int{2, 3, api.MaxRoom - 1, api.MaxRoom} {
		ask(t, star(), room).longest("aab", 0, 2)
	}
}

// TestWrongPlaces: P17.2, ahead of all that is asked, and behind it.
func TestWrongPlaces(t *testing.T) {
	for _, line := range []string{"", "a", "aab", strings.Repeat("a", 1000)} {
		for _, p := range []api.Program{star(), of(jump(0)), of(match())} {
			a := ask(t, p, 2)
			for range 2 {
				for _, at := range []int{-1, -2, math.MinInt, math.MinInt32, len(line) + 1, len(line) + 2, math.MaxInt32, math.MaxInt} {
					a.refuses(line, at)
				}
				holdsAt([]asked{a}, line[:min(len(line), 3)])
			}
		}
	}
}

// TestProgramNotKept: P17.1 and P3, who writes into the program behind New changes nothing; nothing is written into it, nor behind it.
func TestProgramNotKept(t *testing.T) {
	p := star()
	p.Insts = append(make([]api.Inst, 0, 9), p.Insts...)
	whole := p.Insts[:9]
	for i := len(p.Insts); i < len(whole); i++ {
		whole[i] = only(i)
	}
	before := slices.Clone(whole)
	a := ask(t, p, 2)
	a.longest("aab", 0, 2)
	a.ends("baab", 1, 1, 2, 3, 4)
	if !slices.Equal(whole, before) {
		t.Errorf("the instructions were %v, and are %v", before, whole)
	}
	late := ask(t, p, 2)
	clear(whole)
	for _, a := range []asked{a, late} {
		a.longest("aab", 0, 2)
		a.longest("baab", 1, 3)
		a.ends("ba", 0, 0, 1, 2)
	}
}

// TestEndsAreNew: P3, who writes into an answer changes no other one.
func TestEndsAreNew(t *testing.T) {
	a := ask(t, star(), 10)
	one, _ := a.Ends("aab", 0)
	two, _ := a.Ends("aab", 0)
	for _, l := range [][]int{one, two} {
		l = l[:cap(l)]
		for i := range l {
			l[i] = -7
		}
		a.ends("aab", 0, 0, 1, 2, 3)
	}
	one, _ = a.Ends("aab", 0)
	two, _ = a.Ends("aab", 1)
	clear(one[:cap(one)])
	if !slices.Equal(two, []int{1, 2, 3}) {
		t.Errorf("an answer was written into by another one: %v", two)
	}
}

// TestEachOperation: P17.2, what each instruction leads to, by itself.
func TestEachOperation(t *testing.T) {
	for _, c := range []struct {
		p    api.Program
		line string
		last []int // up to where from each place; -1: nowhere
		ends []int // of all
	}{
		{of(match()), "ab", []int{0, 1, 2}, []int{0, 1, 2}},
		{of(match()), "", []int{0}, []int{0}},
		{of(only('a'), match()), "aba", []int{1, -1, 3, -1}, []int{1, 3}},
		{of(only(), match()), "aba", []int{-1, -1, -1, -1}, nil},
		{of(only('a', 'b'), match()), "abc", []int{1, 2, -1, -1}, []int{1, 2}},
		{of(split(1, 3), only('a'), match(), only('b'), match()), "abc", []int{1, 2, -1, -1}, []int{1, 2}},
		{of(split(1, 1), match()), "a", []int{0, 1}, []int{0, 1}},
		{of(split(0, 1), match()), "a", []int{0, 1}, []int{0, 1}},
		{of(split(1, 0), match()), "a", []int{0, 1}, []int{0, 1}},
		{of(split(0, 0)), "a", []int{-1, -1}, nil},
		{of(jump(2), match(), only('a'), jump(1)), "ab", []int{1, -1, -1}, []int{1}},
		{of(jump(0)), "a", []int{-1, -1}, nil},
		{of(begin(), match()), "ab", []int{0, -1, -1}, []int{0}},
		{of(begin(), match()), "", []int{0}, []int{0}},
		{of(end(), match()), "ab", []int{-1, -1, 2}, []int{2}},
		{of(end(), match()), "", []int{0}, []int{0}},
		{of(begin(), end(), match()), "", []int{0}, []int{0}},
		{of(end(), begin(), match()), "", []int{0}, []int{0}},
		{of(begin(), end(), match()), "a", []int{-1, -1}, nil},
		{of(end(), begin(), match()), "a", []int{-1, -1}, nil},
		{of(end(), end(), match()), "a", []int{-1, 1}, []int{1}},
		{of(only('a'), begin(), match()), "aa", []int{-1, -1, -1}, nil},
		{of(only('a'), end(), match()), "aa", []int{-1, 2, -1}, []int{2}},
		{of(end(), only('a'), match()), "aa", []int{-1, -1, -1}, nil},
		{of(begin(), only('a'), end(), match()), "a", []int{1, -1}, []int{1}},
		{of(begin(), only('a'), match()), "aa", []int{1, -1, -1}, []int{1}},
		{grouped(2, closed(1), open(0), only('a'), closed(0), match()), "aa", []int{1, 2, -1}, []int{1, 2}},
		{grouped(1, open(0), open(0), match()), "a", []int{0, 1}, []int{0, 1}},
	} {
		for _, room := range rooms() {
			a := ask(t, c.p, room)
			for at, to := range c.last {
				a.longest(c.line, at, to)
			}
			a.ends(c.line, 0, c.ends...)
		}
		holds(t, c.p, c.line)
	}
}

// TestFirstPlaceAlone: P17.2, what is kept of a walk from the line's first place is not what begins at another one, and the other way round; nor is what begins anew what does not.
func TestFirstPlaceAlone(t *testing.T) {
	p := of(split(1, 3), begin(), jump(3), only('a'), match()) // `^a\|a`, with a way that only the first place has
	q := of(begin(), only('a'), match())
	for _, at := range [][]int{{0, 1, 0, 1}, {1, 0, 1, 0}} {
		for _, room := range rooms() {
			a, b := ask(t, p, room), ask(t, q, room)
			for _, at := range at {
				a.longest("aab", at, at+1)
				b.longest("aab", at, []int{1, -1}[at])
				a.ends("aab", at, []int{1, 2}[at:]...)
				b.ends("aab", at, []int{1}[at:]...)
			}
			b.longest("", 0, -1)
			b.ends("aa", 1)
			b.ends("aa", 0, 1)
		}
	}
}

// TestLastPlaceAlone: P17.2, one state at the line's end and within it.
func TestLastPlaceAlone(t *testing.T) {
	for _, room := range rooms() {
		a := ask(t, plain(t, `a*$`), room)
		a.longest("aaa", 0, 3)
		a.longest("aaab", 0, -1)
		a.longest("aa", 0, 2)
		a.ends("aaab", 0, 4)
		a.ends("aaa", 0, 3)
		a.ends("aaaa", 0, 4)
		b := ask(t, plain(t, `a$\|ab`), room)
		b.longest("a", 0, 1)
		b.longest("ab", 0, 2)
		b.longest("ac", 0, -1)
		b.ends("aba", 0, 2, 3)
	}
}

// TestLineFeeds: P17.2, the line begins at 0 and ends at its length alone.
func TestLineFeeds(t *testing.T) {
	ask(t, of(begin(), match()), 2).longest("\na", 1, -1)
	ask(t, of(end(), match()), 2).longest("a\n", 1, -1)
	ask(t, of(end(), match()), 2).ends("a\nb\n", 0, 4)
	ask(t, of(begin(), only('b'), match()), 2).ends("a\nb", 0)
	ask(t, of(only('\n'), only('b'), match()), 2).ends("a\nb", 0, 3)
}

// TestBytesAlone: P17.2, programs know no characters: places within one count, and folding is none of OpByte's.
func TestBytesAlone(t *testing.T) {
	ask(t, of(only(0xa9), match()), 2).ends("é", 0, 2)
	ask(t, of(match()), 2).longest("é", 1, 1)
	p := of(only('a'), match())
	p.Fold = true
	ask(t, p, 2).ends("Aa", 0, 2)
}

// allBytes is a line of each byte once.
func allBytes() string {
	var all [256]byte
	for b := range all {
		all[b] = byte(b)
	}
	return string(all[:])
}

// TestAllBytes: P17.2, each byte by itself, beside its neighbours and those whose bits stand alike.
func TestAllBytes(t *testing.T) {
	line := allBytes()
	for b := range 256 {
		a := ask(t, of(only(b), match()), 10)
		a.ends(line, 0, b+1)
		a.ends(line, b+1)
		a.longest(line, b, b+1)
		a.longest(line, (b+1)%256, -1)
		a.longest(line, (b+255)%256, -1)
		a.longest(line, (b+64)%256, -1)
	}
}

// TestBytesToldApart: P17.2, what is kept of one byte is used for no other one that an instruction tells from it, wherever the sets' ranges begin and end.
func TestBytesToldApart(t *testing.T) {
	line := allBytes()
	next := numbers(7)
	for range 200 {
		one, two := only(), only()
		for w := range one.Set {
			for b := range 64 {
				one.Set[w] |= uint64(next(1000)/500) << b
				// Few bytes, or all but few: long ranges.
				two.Set[w] |= uint64(max(0, next(20)-18)) << b
			}
		}
		if next(2) == 0 {
			for w := range two.Set {
				two.Set[w] = ^two.Set[w]
			}
		}
		var want []int
		for b := range 256 {
			if one.Set[b/64]>>(b%64)&1 == 1 || two.Set[b/64]>>(b%64)&1 == 1 {
				want = append(want, b+1)
			}
		}
		p := of(split(1, 3), one, match(), two, match())
		for _, room := range []int{2, 1000} {
			ask(t, p, room).ends(line, 0, want...)
		}
	}
}

// TestRoundWithoutBytes: P17.2, a program that goes round without bytes.
func TestRoundWithoutBytes(t *testing.T) {
	for _, p := range []api.Program{
		of(split(1, 2), jump(0), match()),
		of(split(1, 3), split(0, 2), jump(1), match()),
		grouped(1, open(0), closed(0), split(0, 3), match()),
		of(jump(1), jump(2), jump(0)),
		of(split(1, 2), split(2, 0), split(0, 1)),
		of(split(1, 3), end(), jump(0), match()),
		of(end(), split(0, 2), match()),
	} {
		holds(t, p, "ab")
	}
}

// TestLongestGoesOn: P17.2, behind a match and where some have nothing left.
func TestLongestGoesOn(t *testing.T) {
	// a, or abcd: between 1 and 4 there is no match.
	for _, p := range []api.Program{
		of(split(1, 3), only('a'), match(), only('a'), only('b'), only('c'), only('d'), match()),
		of(split(3, 1), only('a'), match(), only('a'), only('b'), only('c'), only('d'), match()),
	} {
		for _, room := range rooms() {
			a := ask(t, p, room)
			a.longest("abcd", 0, 4)
			a.longest("abcx", 0, 1)
			a.longest("abc", 0, 1)
			a.longest("xabcd", 0, -1)
			a.ends("xabcda", 0, 2, 5, 6)
		}
	}
}
