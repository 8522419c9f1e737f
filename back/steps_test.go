package back_test

import (
	"strings"
	"testing"

	"dredge/api"
	"dredge/back"
	"dredge/compile"
	"dredge/parse"
)

// counted is a pattern's program.
func counted(t *testing.T, pattern string) api.Program {
	t.Helper()
	n, err := parse.Parse(pattern, api.Mode{})
	if err != nil {
		t.Fatalf("Parse(%q): %v", pattern, err)
	}
	p, e := compile.Counted(n, api.Mode{})
	if e != api.OK {
		t.Fatalf("Counted(%q): %v", pattern, e)
	}
	return p
}

// TestStepsWhereWaysAreMany: P20.4, where who remembers nothing would go on for ever: all ways end in the same few configurations.
func TestStepsWhereWaysAreMany(t *testing.T) {
	line := strings.Repeat("a", 200)
	for _, pattern := range []string{
		`\(a*\)*b`, `\(\(a*\)*\)*b`, `\(a\|aa\)*b`, `\(a*\)\{2,\}b`, `\(a\{0,3\}\)\{0,9\}b`, `\(a*a*\)*a*a*b`, `a*a*a*a*a*b`, `\(\(a\{1,2\}\)\{1,2\}\)\{1,\}b`,
		`\(a\)\(a*\)*\1b`, `\(a\|a\)*\(b\)\2`, `\(b*\)\(a\|aa\)*\1b`,
	} {
		p := counted(t, pattern)
		for _, at := range []int{0, 1, 100} {
			b := made(t, p, false)
			most := mostSteps(p, len(line))
			watch(t, b, false, most, func() {
				if to, found, e := b.Longest(line, at); to != 0 || found || e != api.OK {
					t.Errorf("%q: Longest at %d: %d, %v, %v", pattern, at, to, found, e)
				}
			})
			watch(t, b, false, most*(len(line)+1), func() {
				if part, found, e := b.Find(line+"bb", at); !found || part.To <= len(line) || e != api.OK {
					t.Errorf("%q: Find from %d: %v, %v, %v", pattern, at, part, found, e)
				}
			})
		}
	}
}

// TestStepsInLongLines: P20.4, of programs without groups and counters that are asked for a Longest does no more than 16 times the places and the instructions; and as all that failed stays remembered, a Find hardly does more.
func TestStepsInLongLines(t *testing.T) {
	line := strings.Repeat("a", 20000)
	for _, pattern := range []string{`a*b`, `a*a*a*b`, `\(a*\)*b`, `\(a\|aa\)*b`, `^a*b`, `b`, `.*\(b\)\1`, `a*\(b*\)c\1`} {
		p := counted(t, pattern)
		most := 16 * len(p.Insts) * (len(line) + 1)
		b := made(t, p, false)
		watch(t, b, false, most, func() {
			if _, found, _ := b.Longest(line, 0); found {
				t.Errorf("%q: found", pattern)
			}
		})
		watch(t, b, false, most, func() {
			if _, found, _ := b.Find(line, 0); found {
				t.Errorf("%q: found", pattern)
			}
		})
	}
	// Groups that nobody refers to, and counters without turns, however often they change.
	p := of(30, 40, open(3), open(4), only('a'), zero(7), closed(4), split(0, 7), closed(3), jump(0))
	b := made(t, p, false)
	watch(t, b, false, 16*8*20001, func() { b.Longest(line, 0) })
}

// TestStepsOfCounters: P20.4, counters up to their bounds, and no further, in one another: how long the line is counts once.
func TestStepsOfCounters(t *testing.T) {
	line := strings.Repeat("a", 3000)
	for _, p := range []api.Program{
		of(0, 1, zero(0), turn(0, 5, api.Infinite, 2, 4), only('a'), jump(1), only('b'), match()),
		of(0, 1, turn(0, 255, api.Infinite, 1, 3), split(0, 2), only('a'), only('b'), match()),
		of(0, 2, zero(0), turn(0, 0, api.Infinite, 2, 7), zero(1), turn(1, 0, api.Infinite, 4, 6), only('a'), jump(3), jump(1), only('b'), match()),
		of(0, 2, zero(0), turn(0, 2, 4, 2, 7), zero(1), turn(1, 0, 5, 4, 6), only('a'), jump(3), jump(1), only('b'), match()),
		// Ends only because turns behind the first ones have bytes.
		of(0, 2, turn(0, 255, api.Infinite, 1, 2), turn(1, 100, api.Infinite, 0, 0), only('b'), match()),
	} {
		b := made(t, p, false)
		watch(t, b, false, mostSteps(p, len(line)), func() {
			if to, found, e := b.Longest(line, 0); to != 0 || found || e != api.OK {
				t.Errorf("%v: %d, %v, %v", p, to, found, e)
			}
		})
	}
}

// TestGoingRound: P1, programs that go round without bytes, plain or not, come to an end, and to what there is beside.
func TestGoingRound(t *testing.T) {
	for _, p := range []api.Program{
		of(0, 0, jump(0)),
		of(0, 0, jump(1), jump(2), jump(0)),
		of(0, 0, split(0, 0)),
		of(0, 0, split(1, 0), split(0, 1)),
		of(0, 0, begin(), jump(0)),
		of(1, 0, open(0), closed(0), jump(0), again(0), match()),
		of(1, 0, open(0), closed(0), again(0), jump(0)),
		of(2, 0, closed(1), open(0), closed(0), again(0), open(1), again(1), jump(0)),
		of(0, 1, zero(0), turn(0, 0, api.Infinite, 0, 0)),
		of(0, 1, turn(0, 255, api.Infinite, 0, 0)),
		of(0, 1, turn(0, 0, 255, 0, 0)),
		of(0, 1, turn(0, 255, 255, 0, 0)),
		of(0, 2, turn(0, 200, api.Infinite, 1, 1), turn(1, 3, 9, 0, 0)),
	} {
		for _, line := range []string{"", "a", "aaa"} {
			for at := range len(line) + 1 {
				reachesNone(t, p, line, at)
				findsNone(t, p, line, at)
			}
		}
	}
	p := of(1, 1, split(1, 3), open(0), jump(0), closed(0), split(0, 5), zero(0), split(3, 7), only('a'), again(0), split(0, 10), match())
	reaches(t, p, "aaa", 0, 3)
	reaches(t, p, "aab", 1, 2)
	findsNone(t, p, "bb", 0)
}

// TestMostGroupsAndCounters: P20.1 and P20.2, as many as there may be, all of which are asked for, in short lines and in long ones: a configuration is a great many numbers.
func TestMostGroupsAndCounters(t *testing.T) {
	p := of(api.MaxGroups, api.MaxCounters)
	put := func(insts ...api.Inst) { p.Insts = append(p.Insts, insts...) }
	for n := range api.MaxGroups {
		put(open(n), every(), closed(n))
	}
	for n := range api.MaxCounters {
		at := len(p.Insts)
		put(zero(n), turn(n, 2, 255, at+2, at+4), only('-'), jump(at+1), only('!'))
	}
	// A way round, so that what the groups and counters are must be told apart.
	at := len(p.Insts)
	put(split(at+1, at+2), jump(at))
	for n := range api.MaxGroups {
		put(again(n))
	}
	put(match())
	letters := "abcdefghijklmnopqrstuvwxyzABCD"
	part := letters + strings.Repeat("--!---!", api.MaxCounters/2) + letters
	for _, ahead := range []int{0, 1, 70000} {
		line := strings.Repeat("a", ahead) + part + "--"
		reaches(t, p, line, ahead, ahead+len(part))
		finds(t, p, line, max(0, ahead-3), api.Span{From: ahead, To: ahead + len(part)})
		reachesNone(t, p, line[:len(line)-3], ahead)
		reachesNone(t, p, strings.Replace(line, "!---!", "!-!", 1), ahead)
		b := made(t, p, false)
		b.Longest(line, ahead)
		if most := 3 * (len(part) + len(p.Insts)); b.Steps() > most {
			t.Errorf("%d steps, want at most %d: there is one way alone", b.Steps(), most)
		}
	}
}

// TestFarApart: P20.4, what groups and counters are is told apart in long lines, too: places that are far apart, and near ones.
func TestFarApart(t *testing.T) {
	// One of the a's, anything, and then that part, its neighbour and a b.
	p := of(2, 0, split(1, 3), every(), jump(0), open(1), only('a'), open(0), every(), closed(0), closed(1), split(10, 12), every(), jump(9), again(0), again(1), only('b'), match())
	far := strings.Repeat("-", 300)
	line := "ax" + far + "ay" + far + "az" + far + "zaxxaxyay" + far + "yayb"
	reaches(t, p, line, 0, len(line))
	reachesNone(t, p, strings.Replace(line, "ay", "aw", 2), 0)
	reachesNone(t, p, line, len(line)-4)
	finds(t, p, line, 1, api.Span{From: 1, To: len(line)})
}

// TestMoreThanATable: P20.2 and P20.4, more configurations than a table has room for: they are remembered all the same, and going round ends.
func TestMoreThanATable(t *testing.T) {
	line := strings.Repeat("a", api.MaxEntries+1000)
	p := of(0, 0, split(1, 3), only('a'), jump(0), split(0, 4), only('b'), match())
	b := made(t, p, false)
	watch(t, b, false, 16*len(p.Insts)*(len(line)+1), func() {
		if _, found, e := b.Longest(line, 0); found || e != api.OK {
			t.Errorf("%v, %v", found, e)
		}
	})
	if b.Kept() <= api.MaxEntries {
		t.Errorf("kept %d", b.Kept())
	}
	watch(t, b, false, 16*len(p.Insts)*(len(line)+2), func() {
		if part, found, e := b.Find(line+"b", 7); part != (api.Span{From: 7, To: len(line) + 1}) || !found || e != api.OK {
			t.Errorf("%v, %v, %v", part, found, e)
		}
	})
}

// TestMoreThanATableAtOneBeginning: P20.2, likewise with a group, of which each beginning has another part: what is found at the next one.
func TestMoreThanATableAtOneBeginning(t *testing.T) {
	half := api.MaxEntries/2 + 1000
	line := strings.Repeat("a", half) + "b" + strings.Repeat("a", half-1) + "c"
	p := of(1, 0, open(0), split(2, 4), only('a'), jump(1), closed(0), only('b'), again(0), only('c'), match())
	b := made(t, p, false)
	watch(t, b, false, 2*16*len(p.Insts)*(len(line)+1), func() {
		if part, found, e := b.Find(line, 0); part != (api.Span{From: 1, To: len(line)}) || !found || e != api.OK {
			t.Errorf("%v, %v, %v", part, found, e)
		}
	})
	if b.Kept() <= api.MaxEntries {
		t.Errorf("kept %d", b.Kept())
	}
}

// TestPlainGoesFar: P20.2, a plain machine on a long way, to whose end it may not go twice.
func TestPlainGoesFar(t *testing.T) {
	line := strings.Repeat("a", 300000)
	b := made(t, of(0, 0, split(1, 3), only('a'), jump(0), match()), true)
	if to, found, e := b.Longest(line, 5); to != len(line) || !found || e != api.OK {
		t.Errorf("%d, %v, %v", to, found, e)
	}
	if part, found, e := b.Find("b"+line[:1000]+"b", 1); part != (api.Span{From: 1, To: 1001}) || !found || e != api.OK {
		t.Errorf("%v, %v, %v", part, found, e)
	}
	if b.Kept() != 0 {
		t.Errorf("kept %d", b.Kept())
	}
}

// TestGreatestPrograms: P20.2 and P20.4, as many instructions as there may be.
func TestGreatestPrograms(t *testing.T) {
	line := strings.Repeat("a", api.MaxCode-1)
	reaches(t, of(0, 0, many(only('a'), api.MaxCode-1, match())...), line, 0, api.MaxCode-1)
	findsNone(t, of(0, 0, many(only('a'), api.MaxCode-1, match())...), line[:100], 0)
	// Each split leads to the next one, and to the last but one.
	fan := of(0, 0)
	for at := range api.MaxCode - 2 {
		fan.Insts = append(fan.Insts, split(at+1, api.MaxCode-2))
	}
	fan.Insts = append(fan.Insts, only('b'), match())
	finds(t, fan, "aab", 0, api.Span{From: 2, To: 3})
	findsNone(t, fan, "aaa", 0)
	b := made(t, fan, false)
	watch(t, b, false, 16*api.MaxCode*4, func() { b.Longest("aaa", 1) })
	// All ways round: each instruction leads to the one ahead of it, too.
	for at := range api.MaxCode - 2 {
		fan.Insts[at].Y = max(0, at-1)
	}
	watch(t, b, false, 16*api.MaxCode*4, func() { b.Longest("aaa", 1) })
	b = made(t, fan, false)
	watch(t, b, false, 16*api.MaxCode*4, func() {
		if to, found, _ := b.Longest("aab", 2); to != 3 || !found {
			t.Errorf("%d, %v", to, found)
		}
	})
}

// TestStepsOfPlain: P20.3, a plain machine goes ways again that the other one remembers; it remembers nothing, and tells the same.
func TestStepsOfPlain(t *testing.T) {
	p := counted(t, `\(a\|aa\)*b`)
	line := strings.Repeat("a", 20)
	plain, other := made(t, p, true), made(t, p, false)
	for _, b := range []*back.Back{plain, other} {
		if _, found, _ := b.Longest(line, 0); found {
			t.Error("found")
		}
	}
	if plain.Steps() < 10000 || other.Steps() > 1000 || plain.Kept() != 0 || other.Kept() < len(line) {
		t.Errorf("plain %d steps, else %d; kept %d and %d", plain.Steps(), other.Steps(), plain.Kept(), other.Kept())
	}
}

// TestNeverFalls: P20.3, a short line behind a long one: as much was kept at one time as was kept; and steps come to steps.
func TestNeverFalls(t *testing.T) {
	b := made(t, twice(), false)
	b.Longest(strings.Repeat("a", 300), 0)
	kept := b.Kept()
	if kept < 300 {
		t.Errorf("kept %d", kept)
	}
	for range 50 {
		watch(t, b, false, mostSteps(twice(), 2), func() { b.Longest("ab", 0) })
		watch(t, b, false, 3*mostSteps(twice(), 2), func() { b.Find("ba", 0) })
		if b.Kept() != kept {
			t.Errorf("kept %d, and then %d", kept, b.Kept())
		}
	}
}

// amongAll is a program that begins with these instructions, which tell places from their own first one on. Ahead of them stand, and nothing leads there, some that refer to all groups and have turns of all counters, each of them at most 2: so all of these tell configurations apart.
func amongAll(insts ...api.Inst) api.Program {
	p := of(api.MaxGroups, api.MaxCounters, jump(1+api.MaxGroups+api.MaxCounters))
	for n := range api.MaxGroups {
		p.Insts = append(p.Insts, again(n))
	}
	for n := range api.MaxCounters {
		p.Insts = append(p.Insts, turn(n, 0, 2, 0, 0))
	}
	ahead := len(p.Insts)
	for _, in := range insts {
		switch in.Op {
		case api.OpSplit, api.OpTurn:
			in.X, in.Y = in.X+ahead, in.Y+ahead
		case api.OpJump:
			in.X += ahead
		}
		p.Insts = append(p.Insts, in)
	}
	return p
}

// TestEachGroupTellsApart: P20.2, among as many groups and counters as there may be, two ways that differ by one group alone. (In lines of 62 bytes what a group has are numbers below a power of two: what is laid into one number too often would be lost whole.)
func TestEachGroupTellsApart(t *testing.T) {
	rest := strings.Repeat("-", 59)
	for n := range api.MaxGroups {
		for _, first := range []api.Inst{split(1, 6), split(6, 1)} {
			p := amongAll(first,
				open(n), only('a'), closed(n), only('b'), jump(10),
				only('a'), open(n), only('b'), closed(n),
				again(n), match())
			reaches(t, p, "aba"+rest, 0, 3)
			reaches(t, p, "abb"+rest, 0, 3)
			reachesNone(t, p, "abc"+rest, 0)
		}
	}
}

// TestEachCounterTellsApart: P20.2, likewise by one counter's turns.
func TestEachCounterTellsApart(t *testing.T) {
	for n := range api.MaxCounters {
		for _, first := range []api.Inst{split(1, 3), split(3, 1)} {
			p := amongAll(first,
				only('x'), jump(5),
				turn(n, 0, 2, 4, 1), only('x'),
				turn(n, 2, 2, 6, 8), only('a'), jump(5), end(), match())
			for ahead := range 3 {
				line := strings.Repeat("-", 59*ahead)
				reaches(t, p, line+"xaa", len(line), len(line)+3)
				reaches(t, p, line+"xa", len(line), len(line)+2)
				reachesNone(t, p, line+"x", len(line))
				reachesNone(t, p, line+"xaaa", len(line))
			}
		}
	}
}
