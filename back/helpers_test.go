package back_test

import (
	"slices"
	"testing"

	"dredge/api"
	"dredge/back"
	"dredge/code"
)

// of is a program with so many groups and counters.
func of(groups, counters int, insts ...api.Inst) api.Program {
	return api.Program{Insts: insts, Groups: groups, Counters: counters}
}

func folded(p api.Program) api.Program {
	p.Fold = true
	return p
}

// only reads one of some bytes.
func only(bytes ...int) api.Inst {
	in := api.Inst{Op: api.OpByte}
	for _, b := range bytes {
		in.Set[b/64] |= 1 << (b % 64)
	}
	return in
}

// every reads any byte.
func every() api.Inst {
	const all = 1<<64 - 1
	return api.Inst{Op: api.OpByte, Set: api.Set{all, all, all, all}}
}

func split(x, y int) api.Inst { return api.Inst{Op: api.OpSplit, X: x, Y: y} }
func jump(x int) api.Inst     { return api.Inst{Op: api.OpJump, X: x} }
func begin() api.Inst         { return api.Inst{Op: api.OpBegin} }
func end() api.Inst           { return api.Inst{Op: api.OpEnd} }
func open(n int) api.Inst     { return api.Inst{Op: api.OpOpen, N: n} }
func closed(n int) api.Inst   { return api.Inst{Op: api.OpClose, N: n} }
func again(n int) api.Inst    { return api.Inst{Op: api.OpBack, N: n} }
func zero(n int) api.Inst     { return api.Inst{Op: api.OpZero, N: n} }
func match() api.Inst         { return api.Inst{Op: api.OpMatch} }

func turn(n, least, most, x, y int) api.Inst {
	return api.Inst{Op: api.OpTurn, N: n, Min: least, Max: most, X: x, Y: y}
}

// many is an instruction so many times, ahead of others.
func many(in api.Inst, times int, behind ...api.Inst) []api.Inst {
	return append(slices.Repeat([]api.Inst{in}, times), behind...)
}

// read is the program of a text.
func read(t *testing.T, text string) api.Program {
	t.Helper()
	p, err := code.Read(text)
	if err != nil {
		t.Fatalf("Read(%q): %v", text, err)
	}
	return p
}

// made is a machine for a right program, of which nothing was asked.
func made(t *testing.T, p api.Program, plain bool) *back.Back {
	t.Helper()
	b, e := back.New(p, plain)
	if b == nil || e != api.OK {
		t.Fatalf("New(%v, %v): %v", brief(p), plain, e)
	}
	if b.Steps() != 0 || b.Kept() != 0 {
		t.Fatalf("New(%v, %v): %d steps, %d kept, and nothing was asked", brief(p), plain, b.Steps(), b.Kept())
	}
	return b
}

// reaches: plain or not, Longest tells a place.
func reaches(t *testing.T, p api.Program, line string, at, want int) {
	t.Helper()
	for _, plain := range []bool{false, true} {
		if to, found, e := made(t, p, plain).Longest(line, at); to != want || !found || e != api.OK {
			t.Errorf("%v, %v: Longest(%q, %d): %d, %v, %v, want %d", brief(p), plain, short(line), at, to, found, e, want)
		}
	}
}

// reachesNone: plain or not, Longest tells that there is none.
func reachesNone(t *testing.T, p api.Program, line string, at int) {
	t.Helper()
	for _, plain := range []bool{false, true} {
		if to, found, e := made(t, p, plain).Longest(line, at); to != 0 || found || e != api.OK {
			t.Errorf("%v, %v: Longest(%q, %d): %d, %v, %v, want none", brief(p), plain, short(line), at, to, found, e)
		}
	}
}

// finds: plain or not, Find tells a part.
func finds(t *testing.T, p api.Program, line string, from int, want api.Span) {
	t.Helper()
	for _, plain := range []bool{false, true} {
		if part, found, e := made(t, p, plain).Find(line, from); part != want || !found || e != api.OK {
			t.Errorf("%v, %v: Find(%q, %d): %v, %v, %v, want %v", brief(p), plain, short(line), from, part, found, e, want)
		}
	}
}

// findsNone: plain or not, Find tells that there is none.
func findsNone(t *testing.T, p api.Program, line string, from int) {
	t.Helper()
	for _, plain := range []bool{false, true} {
		if part, found, e := made(t, p, plain).Find(line, from); part != (api.Span{}) || found || e != api.OK {
			t.Errorf("%v, %v: Find(%q, %d): %v, %v, %v, want none", brief(p), plain, short(line), from, part, found, e)
		}
	}
}

// numbers gives numbers below a bound, always the same ones.
func numbers(seed uint32) func(int) int {
	return func(below int) int {
		seed = seed*1664525 + 1013904223
		return int(seed>>8) % below
	}
}

// madeProgram is a right program of at most so many instructions. Most of them lead on, so that something is matched now and then.
func madeProgram(next func(int) int, most int) api.Program {
	p := of(1+next(modelGroups), 1+next(modelCounters), make([]api.Inst, 1+next(most))...)
	p.Fold = next(2) == 0
	last := len(p.Insts) - 1
	for at := range last {
		p.Insts[at] = madeInst(next, p, at)
	}
	p.Insts[last] = match()
	return p
}

func madeInst(next func(int) int, p api.Program, at int) api.Inst {
	near := func() int { return min(max(0, at-4+next(10)), len(p.Insts)-1) }
	switch next(16) {
	case 0, 1, 2:
		return only('a' + next(2))
	case 3:
		return only('a', 'A', 'b')
	case 4, 5:
		return split(near(), near())
	case 6:
		return jump(near())
	case 7:
		return []api.Inst{begin(), end(), match(), zero(next(p.Counters))}[next(4)]
	case 8, 9:
		return open(next(p.Groups))
	case 10, 11:
		return closed(next(p.Groups))
	case 12, 13:
		return again(next(p.Groups))
	}
	least := next(3)
	return turn(next(p.Counters), least, []int{api.Infinite, least, least + 1, least + 2}[next(4)], near(), near())
}

// madeLine is a line of at most so many letters, some of them great ones.
func madeLine(next func(int) int, most int) string {
	l := make([]byte, next(most+1))
	for i := range l {
		l[i] = "aaabbA"[next(6)]
	}
	return string(l)
}

// linesOf is all lines of at most so many letters of an alphabet.
func linesOf(alphabet []string, most int) []string {
	l := []string{""}
	last := l
	for range most {
		var next []string
		for _, line := range last {
			for _, letter := range alphabet {
				next = append(next, line+letter)
			}
		}
		l, last = append(l, next...), next
	}
	return l
}

// brief is a program without the instructions that are too many to be read.
func brief(p api.Program) api.Program {
	p.Insts = p.Insts[:min(len(p.Insts), 20)]
	return p
}

// short is the beginning of a line.
func short(line string) string { return line[:min(len(line), 60)] }
