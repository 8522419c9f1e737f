package nfa_test

import (
	"slices"
	"testing"

	"dredge/api"
	"dredge/code"
	"dredge/nfa"
)

// of is a program's instructions, without groups and counters.
func of(insts ...api.Inst) api.Program { return api.Program{Insts: insts} }

// grouped is a program with so many groups.
func grouped(groups int, insts ...api.Inst) api.Program {
	return api.Program{Insts: insts, Groups: groups}
}

// only reads one of some bytes.
func only(bytes ...int) api.Inst {
	in := api.Inst{Op: api.OpByte}
	for _, b := range bytes {
		in.Set[b/64] |= 1 << (b % 64)
	}
	return in
}

func split(x, y int) api.Inst { return api.Inst{Op: api.OpSplit, X: x, Y: y} }
func jump(x int) api.Inst     { return api.Inst{Op: api.OpJump, X: x} }
func begin() api.Inst         { return api.Inst{Op: api.OpBegin} }
func end() api.Inst           { return api.Inst{Op: api.OpEnd} }
func open(n int) api.Inst     { return api.Inst{Op: api.OpOpen, N: n} }
func closed(n int) api.Inst   { return api.Inst{Op: api.OpClose, N: n} }
func match() api.Inst         { return api.Inst{Op: api.OpMatch} }

// many is an instruction so many times, ahead of others.
func many(in api.Inst, times int, behind ...api.Inst) []api.Inst {
	return append(slices.Repeat([]api.Inst{in}, times), behind...)
}

// read is the program of a text.
func read(t *testing.T, text string) api.Program {
	t.Helper()
	p, err := code.Read(text)
	if err != nil {
		t.Fatalf("Read(%q): %v", text, err)
	}
	return p
}

// numbers gives numbers below a bound, always the same ones.
func numbers(seed uint32) func(int) int {
	return func(below int) int {
		seed = seed*1664525 + 1013904223
		return int(seed>>8) % below
	}
}

// choices is all instructions of a few bytes that a program of so many, with one group, may have, at its end those alone that may stand there.
func choices(count int, last bool) []api.Inst {
	l := []api.Inst{match()}
	for x := range count {
		l = append(l, jump(x))
		for y := range x {
			l = append(l, split(x, y))
		}
	}
	if !last {
		l = append(l, only('a'), only('b'), only('a', 'b'), begin(), end(), open(0), closed(0))
	}
	return l
}

// programsOf goes over all programs of so many of these choices.
func programsOf(count int) func(func(api.Program) bool) {
	return func(yield func(api.Program) bool) {
		insts := make([]api.Inst, count)
		fill(insts, 0, func() bool { return yield(grouped(1, slices.Clone(insts)...)) })
	}
}

func fill(insts []api.Inst, at int, full func() bool) bool {
	if at == len(insts) {
		return full()
	}
	for _, in := range choices(len(insts), at == len(insts)-1) {
		insts[at] = in
		if !fill(insts, at+1, full) {
			return false
		}
	}
	return true
}

// made is a right and free program of at most so many instructions. Most of them lead on, so that something is matched now and then.
func made(next func(int) int, most int) api.Program {
	count := 1 + next(most)
	p := api.Program{Insts: make([]api.Inst, count), Groups: 1 + next(3), Counters: next(3), Fold: next(2) == 0}
	for at := range count - 1 {
		p.Insts[at] = madeInst(next, p, at)
	}
	p.Insts[count-1] = match()
	return p
}

func madeInst(next func(int) int, p api.Program, at int) api.Inst {
	near := func() int { return min(max(0, at-4+next(10)), len(p.Insts)-1) }
	switch next(12) {
	case 0, 1, 2, 3:
		return only('a' + next(3))
	case 4:
		return only('a', 'b')
	case 5, 6, 7:
		return split(near(), near())
	case 8:
		return jump(near())
	case 9:
		return []api.Inst{begin(), end()}[next(2)]
	case 10:
		return []api.Inst{open(next(p.Groups)), closed(next(p.Groups))}[next(2)]
	}
	if next(4) == 0 {
		return match()
	}
	return only('b', 'c')
}

// madeLine is a line of at most so many bytes.
func madeLine(next func(int) int, most int) string {
	l := make([]byte, next(most+1))
	for i := range l {
		l[i] = byte('a' + next(3))
	}
	return string(l)
}

// linesOf is all lines of at most so many letters of an alphabet.
func linesOf(alphabet []string, most int) []string {
	l := []string{""}
	last := l
	for range most {
		var next []string
		for _, line := range last {
			for _, letter := range alphabet {
				next = append(next, line+letter)
			}
		}
		l, last = append(l, next...), next
	}
	return l
}

// brief is a program without the instructions that are too many to be read.
func brief(p api.Program) api.Program {
	p.Insts = p.Insts[:min(len(p.Insts), 20)]
	return p
}

// short is the beginning of a line.
func short(line string) string { return line[:min(len(line), 60)] }

// holdsSteps: P16.4. Each place that was gone over has an instruction that was looked at there.
func holdsSteps(t *testing.T, p api.Program, line string, place, steps, places int) {
	t.Helper()
	if most := 4 * len(p.Insts) * (len(line) - place + 1); steps < places || steps > most {
		t.Errorf("%v in %q from %d on: %d steps, want %d to %d", brief(p), short(line), place, steps, places, most)
	}
}

// reaches: Longest tells a place.
func reaches(t *testing.T, p api.Program, line string, at, want int) {
	t.Helper()
	to, found, steps, e := nfa.Longest(p, line, at)
	if to != want || !found || e != api.OK {
		t.Errorf("Longest(%v, %q, %d): %d, %v, %v, want %d", brief(p), short(line), at, to, found, e, want)
		return
	}
	holdsSteps(t, p, line, at, steps, 1+want-at)
}

// reachesNone: Longest tells that there is none.
func reachesNone(t *testing.T, p api.Program, line string, at int) {
	t.Helper()
	to, found, steps, e := nfa.Longest(p, line, at)
	if to != 0 || found || e != api.OK {
		t.Errorf("Longest(%v, %q, %d): %d, %v, %v, want none", brief(p), short(line), at, to, found, e)
		return
	}
	holdsSteps(t, p, line, at, steps, 1)
}

// finds: Find tells a part.
func finds(t *testing.T, p api.Program, line string, from int, want api.Span) {
	t.Helper()
	part, found, steps, e := nfa.Find(p, line, from)
	if part != want || !found || e != api.OK {
		t.Errorf("Find(%v, %q, %d): %v, %v, %v, want %v", brief(p), short(line), from, part, found, e, want)
		return
	}
	holdsSteps(t, p, line, from, steps, 1+want.To-from)
}

// findsNone: Find tells that there is none; all places have been asked.
func findsNone(t *testing.T, p api.Program, line string, from int) {
	t.Helper()
	part, found, steps, e := nfa.Find(p, line, from)
	if part != (api.Span{}) || found || e != api.OK {
		t.Errorf("Find(%v, %q, %d): %v, %v, %v, want none", brief(p), short(line), from, part, found, e)
		return
	}
	holdsSteps(t, p, line, from, steps, 1+len(line)-from)
}

// refuses: both tell an error, and nothing beside it.
func refuses(t *testing.T, p api.Program, line string, place int, want api.Errno) {
	t.Helper()
	if to, found, steps, e := nfa.Longest(p, line, place); to != 0 || found || steps != 0 || e != want {
		t.Errorf("Longest(%v, %q, %d): %d, %v, %d, %v, want %v", brief(p), short(line), place, to, found, steps, e, want)
	}
	if part, found, steps, e := nfa.Find(p, line, place); part != (api.Span{}) || found || steps != 0 || e != want {
		t.Errorf("Find(%v, %q, %d): %v, %v, %d, %v, want %v", brief(p), short(line), place, part, found, steps, e, want)
	}
}
