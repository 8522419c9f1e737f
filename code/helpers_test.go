package code_test

import (
	"errors"
	"math"
	"slices"
	"testing"

	"dredge/api"
	"dredge/code"
)

// program is a program without groups and counters.
func program(insts ...api.Inst) api.Program { return api.Program{Insts: insts} }

// with is a program with so many groups and counters.
func with(p api.Program, groups, counters int) api.Program {
	p.Groups, p.Counters = groups, counters
	return p
}

func folded(p api.Program) api.Program {
	p.Fold = true
	return p
}

func byteOf(s api.Set) api.Inst          { return api.Inst{Op: api.OpByte, Set: s} }
func split(x, y int) api.Inst            { return api.Inst{Op: api.OpSplit, X: x, Y: y} }
func jump(x int) api.Inst                { return api.Inst{Op: api.OpJump, X: x} }
func begin() api.Inst                    { return api.Inst{Op: api.OpBegin} }
func end() api.Inst                      { return api.Inst{Op: api.OpEnd} }
func open(n int) api.Inst                { return api.Inst{Op: api.OpOpen, N: n} }
func closed(n int) api.Inst              { return api.Inst{Op: api.OpClose, N: n} }
func back(n int) api.Inst                { return api.Inst{Op: api.OpBack, N: n} }
func zero(n int) api.Inst                { return api.Inst{Op: api.OpZero, N: n} }
func match() api.Inst                    { return api.Inst{Op: api.OpMatch} }
func many(in api.Inst, k int) []api.Inst { return slices.Repeat([]api.Inst{in}, k) }

func turn(n, least, most, x, y int) api.Inst {
	return api.Inst{Op: api.OpTurn, N: n, Min: least, Max: most, X: x, Y: y}
}

// only is the set of some bytes.
func only(bytes ...int) api.Set {
	var s api.Set
	for _, b := range bytes {
		s[b/64] |= 1 << (b % 64)
	}
	return s
}

// span is the set of the bytes from lo to hi.
func span(lo, hi int) api.Set {
	var s api.Set
	for b := lo; b <= hi; b++ {
		s[b/64] |= 1 << (b % 64)
	}
	return s
}

func or(a, b api.Set) api.Set {
	for i := range a {
		a[i] |= b[i]
	}
	return a
}

// oneOfEach is a right program with all operations.
func oneOfEach() api.Program {
	return with(program(byteOf(only('a')), split(2, 3), jump(4), begin(), end(), open(0), closed(1), back(0), zero(1), turn(1, 2, 3, 0, 10), match()), 2, 2)
}

// extremes is ints at which something may wrap round.
func extremes() []int {
	return []int{math.MinInt, math.MinInt + 1, math.MinInt32, -256, -2, -1, 31, 41, 256, 40000, 40001, math.MaxInt32, math.MaxInt - 1, math.MaxInt}
}

// numbers gives numbers below a bound, always the same ones.
func numbers(seed uint32) func(int) int {
	return func(below int) int {
		seed = seed*1664525 + 1013904223
		return int(seed>>8) % below
	}
}

// made is a right program of at most so many instructions.
func made(next func(int) int, most int) api.Program {
	p := api.Program{Groups: next(4), Counters: next(4), Fold: next(2) == 0, Insts: make([]api.Inst, 1+next(most))}
	for i := range p.Insts {
		p.Insts[i] = madeInst(next, p, i)
	}
	return p
}

// madeInst is an instruction that may stand at a place of a program.
func madeInst(next func(int) int, p api.Program, at int) api.Inst {
	for {
		in := api.Inst{Op: 1 + next(11)}
		if at == len(p.Insts)-1 && leadsToNext(in.Op) {
			continue
		}
		switch in.Op {
		case api.OpByte:
			in.Set = madeSet(next)
		case api.OpSplit:
			in.X, in.Y = next(len(p.Insts)), next(len(p.Insts))
		case api.OpJump:
			in.X = next(len(p.Insts))
		case api.OpOpen, api.OpClose, api.OpBack:
			if p.Groups == 0 {
				continue
			}
			in.N = next(p.Groups)
		case api.OpZero, api.OpTurn:
			if p.Counters == 0 {
				continue
			}
			in.N = next(p.Counters)
		}
		if in.Op == api.OpTurn {
			in.X, in.Y = next(len(p.Insts)), next(len(p.Insts))
			in.Min = next(256)
			in.Max = in.Min + next(256-in.Min)
			if next(3) == 0 {
				in.Max = api.Infinite
			}
		}
		return in
	}
}

func madeSet(next func(int) int) api.Set {
	var s api.Set
	for range next(5) {
		lo := next(256)
		s = or(s, span(lo, lo+next(min(20, 256-lo))))
	}
	return s
}

// spoilt is a program in which one thing is another one, right or not.
func spoilt(next func(int) int, p api.Program) api.Program {
	p.Insts = slices.Clone(p.Insts)
	values := append(extremes(), 0, 1, 2, 3, 12, 13, 255, len(p.Insts)-1, len(p.Insts))
	value := values[next(len(values))]
	in := &p.Insts[next(len(p.Insts))]
	switch next(9) {
	case 0:
		in.Op = next(15) - 1
	case 1:
		in.X = value
	case 2:
		in.Y = value
	case 3:
		in.N = value
	case 4:
		in.Min = value
	case 5:
		in.Max = value
	case 6:
		in.Set[next(4)] ^= 1 << next(64)
	case 7:
		p.Groups = value
	case 8:
		p.Counters = value
	}
	return p
}

// equal tells whether two programs are the same, without the package's own call.
func equal(p, q api.Program) bool {
	if len(p.Insts) != len(q.Insts) || p.Groups != q.Groups || p.Counters != q.Counters || p.Fold != q.Fold {
		return false
	}
	for i, a := range p.Insts {
		b := q.Insts[i]
		if a.Op != b.Op || a.X != b.X || a.Y != b.Y || a.N != b.N || a.Min != b.Min || a.Max != b.Max {
			return false
		}
		for w := range a.Set {
			if a.Set[w] != b.Set[w] {
				return false
			}
		}
	}
	return true
}

// isNothing tells whether a program has nothing.
func isNothing(p api.Program) bool { return equal(p, api.Program{}) }

// short is the beginning of a text: some are too long to be read.
func short(s string) string {
	if len(s) > 300 {
		return s[:300] + ".."
	}
	return s
}

// reads: Read tells a program.
func reads(t *testing.T, s string, want api.Program) {
	t.Helper()
	p, err := code.Read(s)
	if err != nil || !equal(p, want) {
		t.Errorf("Read(%q): %v, %v, want %v", short(s), p, err, want)
	}
}

// refuses: Read tells an error and its place, and no program.
func refuses(t *testing.T, s string, e api.Errno, at int) {
	t.Helper()
	p, err := code.Read(s)
	b, ok := err.(*api.Bad)
	if !ok || b == nil || *b != (api.Bad{Code: e, At: at}) || !errors.Is(err, e) || !isNothing(p) {
		t.Errorf("Read(%q): %d instructions, %v, want %v at %d", short(s), len(p.Insts), err, e, at)
	}
}

// isRight: Right, and with it Text and Reach, have no error.
func isRight(t *testing.T, p api.Program) {
	t.Helper()
	isTold(t, p, api.OK, 0)
}

// isTold: Right tells an error and an instruction, Text and Reach that error and nothing else.
func isTold(t *testing.T, p api.Program, want api.Errno, at int) {
	t.Helper()
	if e, k := code.Right(p); e != want || k != at {
		t.Errorf("Right(%v): %v, %d, want %v, %d", brief(p), e, k, want, at)
	}
	if s, e := code.Text(p); e != want || (s != "") != (want == api.OK) {
		t.Errorf("Text(%v): %q, %v, want %v", brief(p), short(s), e, want)
	}
	if l, e := code.Reach(p); e != want || (len(l) > 0) != (want == api.OK) {
		t.Errorf("Reach(%v): %d, %v, want %v", brief(p), len(l), e, want)
	}
}

// brief is a program without the instructions that are too many to be read.
func brief(p api.Program) api.Program {
	p.Insts = p.Insts[:min(len(p.Insts), 20)]
	return p
}
