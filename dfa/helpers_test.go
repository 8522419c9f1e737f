package dfa_test

import (
	"slices"
	"testing"

	"dredge/api"
	"dredge/code"
	"dredge/compile"
	"dredge/dfa"
	"dredge/parse"
)

// of is a program's instructions, without groups and counters.
func of(insts ...api.Inst) api.Program { return api.Program{Insts: insts} }

// grouped is a program with so many groups.
func grouped(groups int, insts ...api.Inst) api.Program {
	return api.Program{Insts: insts, Groups: groups}
}

// only reads one of some bytes.
func only(bytes ...int) api.Inst {
	in := api.Inst{Op: api.OpByte}
	for _, b := range bytes {
		in.Set[b/64] |= 1 << (b % 64)
	}
	return in
}

func split(x, y int) api.Inst { return api.Inst{Op: api.OpSplit, X: x, Y: y} }
func jump(x int) api.Inst     { return api.Inst{Op: api.OpJump, X: x} }
func begin() api.Inst         { return api.Inst{Op: api.OpBegin} }
func end() api.Inst           { return api.Inst{Op: api.OpEnd} }
func open(n int) api.Inst     { return api.Inst{Op: api.OpOpen, N: n} }
func closed(n int) api.Inst   { return api.Inst{Op: api.OpClose, N: n} }
func match() api.Inst         { return api.Inst{Op: api.OpMatch} }

// many is an instruction so many times, ahead of others.
func many(in api.Inst, times int, behind ...api.Inst) []api.Inst {
	return append(slices.Repeat([]api.Inst{in}, times), behind...)
}

// star matches any number of a's.
func star() api.Program { return of(split(1, 3), only('a'), jump(0), match()) }

// read is the program of a text.
func read(t *testing.T, text string) api.Program {
	t.Helper()
	p, err := code.Read(text)
	if err != nil {
		t.Fatalf("Read(%q): %v", text, err)
	}
	return p
}

// plain is a pattern's program.
func plain(t *testing.T, pattern string) api.Program {
	t.Helper()
	n, err := parse.Parse(pattern, api.Mode{})
	if err != nil {
		t.Fatalf("Parse(%q): %v", pattern, err)
	}
	p, e := compile.Plain(n, api.Mode{})
	if e != api.OK {
		t.Fatalf("Plain(%q): %v", pattern, e)
	}
	return p
}

// numbers gives numbers below a bound, always the same ones.
func numbers(seed uint32) func(int) int {
	return func(below int) int {
		seed = seed*1664525 + 1013904223
		return int(seed>>8) % below
	}
}

// choices is all instructions of a few bytes that a program of so many, with one group, may have, at its end those alone that may stand there.
func choices(count int, last bool) []api.Inst {
	l := []api.Inst{match()}
	for x := range count {
		l = append(l, jump(x))
		for y := range x {
			l = append(l, split(x, y))
		}
	}
	if !last {
		l = append(l, only('a'), only('b'), only('a', 'b'), begin(), end(), open(0), closed(0))
	}
	return l
}

// programsOf goes over all programs of so many of these choices.
func programsOf(count int) func(func(api.Program) bool) {
	return func(yield func(api.Program) bool) {
		insts := make([]api.Inst, count)
		fill(insts, 0, func() bool { return yield(grouped(1, slices.Clone(insts)...)) })
	}
}

func fill(insts []api.Inst, at int, full func() bool) bool {
	if at == len(insts) {
		return full()
	}
	for _, in := range choices(len(insts), at == len(insts)-1) {
		insts[at] = in
		if !fill(insts, at+1, full) {
			return false
		}
	}
	return true
}

// made is a right and free program of at most so many instructions. Most of them lead on, so that something is matched now and then.
func made(next func(int) int, most int) api.Program {
	count := 1 + next(most)
	p := api.Program{Insts: make([]api.Inst, count), Groups: 1 + next(3), Counters: next(3), Fold: next(2) == 0}
	for at := range count - 1 {
		p.Insts[at] = madeInst(next, p, at)
	}
	p.Insts[count-1] = match()
	return p
}

func madeInst(next func(int) int, p api.Program, at int) api.Inst {
	near := func() int { return min(max(0, at-4+next(10)), len(p.Insts)-1) }
	switch next(12) {
	case 0, 1, 2, 3:
		return only('a' + next(3))
	case 4:
		return only('a', 'b')
	case 5, 6, 7:
		return split(near(), near())
	case 8:
		return jump(near())
	case 9:
		return []api.Inst{begin(), end()}[next(2)]
	case 10:
		return []api.Inst{open(next(p.Groups)), closed(next(p.Groups))}[next(2)]
	}
	if next(4) == 0 {
		return match()
	}
	return only('b', 'c')
}

// madeLine is a line of at most so many bytes.
func madeLine(next func(int) int, most int) string {
	l := make([]byte, next(most+1))
	for i := range l {
		l[i] = byte('a' + next(3))
	}
	return string(l)
}

// linesOf is all lines of at most so many letters of an alphabet.
func linesOf(alphabet []string, most int) []string {
	l := []string{""}
	last := l
	for range most {
		var next []string
		for _, line := range last {
			for _, letter := range alphabet {
				next = append(next, line+letter)
			}
		}
		l, last = append(l, next...), next
	}
	return l
}

// brief is a program without the instructions that are too many to be read.
func brief(p api.Program) api.Program {
	p.Insts = p.Insts[:min(len(p.Insts), 20)]
	return p
}

// short is the beginning of a line.
func short(line string) string { return line[:min(len(line), 60)] }

// asked is an automaton that is asked, and held to what it promises of each call.
type asked struct {
	t    *testing.T
	p    api.Program
	room int
	*dfa.DFA
}

// ask makes one that keeps nothing yet.
func ask(t *testing.T, p api.Program, room int) asked {
	t.Helper()
	d, e := dfa.New(p, room)
	if d == nil || e != api.OK {
		t.Fatalf("New(%v, %d): %v, %v", brief(p), room, d, e)
	}
	if d.Steps() != 0 || d.States() != 0 || d.Flushes() != 0 {
		t.Fatalf("New(%v, %d): %d steps, %d states, %d flushes, want none", brief(p), room, d.Steps(), d.States(), d.Flushes())
	}
	return asked{t, p, room, d}
}

// within makes a call: P17.3 and P17.4. least is how many bytes it must have gone over.
func (a asked) within(line string, at, least int, call func()) {
	a.t.Helper()
	steps, flushes := a.Steps(), a.Flushes()
	call()
	done, most := a.Steps()-steps, 8*len(a.p.Insts)*(len(line)-at+1)
	if done < least || done > most {
		a.t.Errorf("%v, room %d, in %q at %d: %d steps, want %d to %d", brief(a.p), a.room, short(line), at, done, least, most)
	}
	if a.States() < 0 || a.States() > a.room || a.Flushes() < flushes {
		a.t.Errorf("%v, room %d, in %q at %d: %d states, %d flushes, where there were %d", brief(a.p), a.room, short(line), at, a.States(), a.Flushes(), flushes)
	}
}

// twice makes a call twice: P17.5, too.
func (a asked) twice(line string, at, least int, call func()) {
	a.t.Helper()
	flushes := a.Flushes()
	a.within(line, at, least, call)
	steps := a.Steps()
	a.within(line, at, least, call)
	if done, most := a.Steps()-steps, 4*(len(line)-at+1); a.Flushes() == flushes && done > most {
		a.t.Errorf("%v, room %d, in %q at %d: %d steps when asked again, want %d at most", brief(a.p), a.room, short(line), at, done, most)
	}
}

// longest: Longest tells a place; if it is below 0, that there is none.
func (a asked) longest(line string, at, want int) {
	a.t.Helper()
	a.twice(line, at, max(want-at, 0), func() {
		if to, found, e := a.Longest(line, at); to != max(want, 0) || found != (want >= 0) || e != api.OK {
			a.t.Errorf("%v, room %d: Longest(%q, %d): %d, %v, %v, want %d", brief(a.p), a.room, short(line), at, to, found, e, want)
		}
	})
}

// ends: Ends tells some places, and Any the first of them.
func (a asked) ends(line string, at int, want ...int) {
	a.t.Helper()
	first := -1
	if len(want) > 0 {
		first = want[0]
	}
	a.twice(line, at, max(first-at, 0), func() {
		if to, found, e := a.Any(line, at); to != max(first, 0) || found != (first >= 0) || e != api.OK {
			a.t.Errorf("%v, room %d: Any(%q, %d): %d, %v, %v, want %d", brief(a.p), a.room, short(line), at, to, found, e, first)
		}
	})
	a.twice(line, at, len(line)-at, func() {
		if l, e := a.Ends(line, at); !slices.Equal(l, want) || e != api.OK {
			a.t.Errorf("%v, room %d: Ends(%q, %d): %v, %v, want %v", brief(a.p), a.room, short(line), at, l, e, want)
		}
	})
}

// refuses: all calls tell that there is no such place, and nothing has been done.
func (a asked) refuses(line string, at int) {
	a.t.Helper()
	steps, states, flushes := a.Steps(), a.States(), a.Flushes()
	if to, found, e := a.Longest(line, at); to != 0 || found || e != api.ErrArg {
		a.t.Errorf("Longest(%q, %d): %d, %v, %v, want ErrArg", short(line), at, to, found, e)
	}
	if to, found, e := a.Any(line, at); to != 0 || found || e != api.ErrArg {
		a.t.Errorf("Any(%q, %d): %d, %v, %v, want ErrArg", short(line), at, to, found, e)
	}
	if l, e := a.Ends(line, at); len(l) > 0 || e != api.ErrArg {
		a.t.Errorf("Ends(%q, %d): %v, %v, want ErrArg", short(line), at, l, e)
	}
	if a.Steps() != steps || a.States() != states || a.Flushes() != flushes {
		a.t.Errorf("at %d in %q: %d steps, %d states, %d flushes, where there were %d, %d, %d", at, short(line), a.Steps(), a.States(), a.Flushes(), steps, states, flushes)
	}
}
