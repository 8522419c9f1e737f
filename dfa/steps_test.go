package dfa_test

import (
	"strings"
	"testing"

	"dredge/api"
	"dredge/dfa"
)

// TestStepsOfBytes: P17.4, where all is kept there is one for each byte that is gone over.
func TestStepsOfBytes(t *testing.T) {
	a := ask(t, plain(t, `a*b`), 100)
	line := strings.Repeat("a", 500)
	for _, c := range []struct {
		call  func()
		bytes int
	}{
		{func() { a.Ends(line, 0) }, 500},
		{func() { a.Ends(line, 100) }, 400},
		{func() { a.Ends(line, 500) }, 0},
		{func() { a.Any(line, 7) }, 493},
		{func() { a.Longest(line, 499) }, 1},
		{func() { a.Any("aab"+line, 1) }, 2},
	} {
		c.call()
		steps := a.Steps()
		c.call()
		if done := a.Steps() - steps; done != c.bytes {
			t.Errorf("%d steps for %d bytes", done, c.bytes)
		}
	}
}

// TestStepsOfStates: P17.4, one for each instruction that is looked at while a state is made; none, if it is kept; anew, if it was given up.
func TestStepsOfStates(t *testing.T) {
	for _, count := range []int{1, 2, 10, 1000, api.MaxCode} {
		// A chain of jumps: all are come to.
		p := of()
		for at := range count - 1 {
			p.Insts = append(p.Insts, jump(at+1))
		}
		p.Insts = append(p.Insts, match())
		a := ask(t, p, 2)
		a.longest("", 0, 0)
		if steps := a.Steps(); steps < count || steps > 8*count {
			t.Errorf("%d instructions: %d steps", count, steps)
		}
		steps := a.Steps()
		a.longest("", 0, 0)
		if a.Steps() != steps {
			t.Errorf("%d instructions: %d steps more, where all is kept and nothing read", count, a.Steps()-steps)
		}
	}
	// Many that read bytes, each of which is asked.
	fan := of()
	for range 100 {
		at := len(fan.Insts)
		fan.Insts = append(fan.Insts, split(at+1, at+3), only('a'), match())
	}
	fan.Insts = append(fan.Insts, match())
	b := ask(t, fan, 2)
	b.longest("z", 1, 1)
	b.within("bz", 1, 1+100, func() { b.Longest("bz", 1) })
	// Each of the three states of a walk gives up another one.
	a := ask(t, plain(t, `abc`), 2)
	for range 5 {
		steps, flushes := a.Steps(), a.Flushes()
		a.within("abc", 0, 3, func() { a.Longest("abc", 0) })
		if a.Flushes() == flushes || a.Steps()-steps <= 3+3 {
			t.Errorf("%d flushes, %d steps", a.Flushes()-flushes, a.Steps()-steps)
		}
	}
}

// TestStepsNeverFall: P17.4 and P17.3, of all calls since New together, when states are given up, too.
func TestStepsNeverFall(t *testing.T) {
	next := numbers(8)
	for range 100 {
		a := ask(t, made(next, 20), 2+next(3))
		steps, flushes := 0, 0
		for range 20 {
			line := madeLine(next, 10)
			a.Ends(line, next(len(line)+1))
			a.Longest(line, next(len(line)+1))
			a.Any(line, next(len(line)+1))
			if a.Steps() < steps || a.Flushes() < flushes {
				t.Fatalf("%v: %d steps, %d flushes, where there were %d, %d", a.p, a.Steps(), a.Flushes(), steps, flushes)
			}
			steps, flushes = a.Steps(), a.Flushes()
		}
	}
}

// TestStepsAtTheEnd: P17.4, at the line's length no byte stands behind, however long the line is: eight times the instructions at most.
func TestStepsAtTheEnd(t *testing.T) {
	line := strings.Repeat("ab", 1000)
	for _, p := range []api.Program{star(), of(match()), of(jump(0)), plain(t, `\(a\|b\)*$`)} {
		for _, call := range []func(*dfa.DFA){
			func(d *dfa.DFA) { d.Longest(line, len(line)) },
			func(d *dfa.DFA) { d.Any(line, len(line)) },
			func(d *dfa.DFA) { d.Ends(line, len(line)) },
		} {
			a := ask(t, p, 2)
			a.within(line, len(line), 1, func() { call(a.DFA) })
		}
	}
}

// TestStepsInLongLines: P17.4, where who began anew at each place would do far more.
func TestStepsInLongLines(t *testing.T) {
	long := strings.Repeat("a", 20000)
	for _, pattern := range []string{`a*b`, `a*a*a*b`, `\(a*\)*b`, `\(a\|aa\)*b`, `a.\{50\}b`, `^a*b`, `b`, `\(a$\|a\)*b`} {
		for _, room := range []int{2, 10, 1000} {
			a := ask(t, plain(t, pattern), room)
			for _, at := range []int{0, 1, 19000, 19999, 20000} {
				a.ends(long, at)
				a.longest(long, at, -1)
			}
		}
	}
}

// TestStepsOfEnds: P17.4, where each state has much behind the line's end, all of which is looked at at each room.
func TestStepsOfEnds(t *testing.T) {
	line := strings.Repeat("abb", 300)
	for _, room := range []int{2, 3, 1000} {
		// Each a is followed by many OpEnd, each with its own match.
		p := of(split(1, 3), only('a', 'b'), jump(0))
		for range 200 {
			at := len(p.Insts)
			p.Insts = append(p.Insts, split(at+1, at+3), end(), match())
		}
		p.Insts = append(p.Insts, only('a'), match())
		a := ask(t, p, room)
		a.longest(line, 0, len(line))
		a.longest(line+"c", 0, len(line)-2)
		a.ends("abab", 0, 1, 3, 4)
	}
}

// TestGreatestPrograms: P17.2 and P17.4, as many instructions as there may be.
func TestGreatestPrograms(t *testing.T) {
	bytes := of(many(only('a'), api.MaxCode-1, match())...)
	line := strings.Repeat("a", api.MaxCode-1)
	for _, room := range []int{2, api.MaxRoom} {
		a := ask(t, bytes, room)
		a.longest(line, 0, api.MaxCode-1)
		a.longest(line, 1, -1)
		a.ends(line[:300], 0)
		// Numbers of instructions in one byte, in the other one, in both.
		far := of(many(only('b'), api.MaxCode-1, match())...)
		far.Insts[0] = split(255, 256)
		far.Insts[255] = jump(39000)
		far.Insts[256] = split(512, 39168)
		far.Insts[512], far.Insts[513] = only('a'), match()
		far.Insts[39000], far.Insts[39001] = only('b'), match()
		far.Insts[39168], far.Insts[39169], far.Insts[39170] = only('c'), only('d'), match()
		b := ask(t, far, room)
		b.longest("a", 0, 1)
		b.longest("b", 0, 1)
		b.longest("cd", 0, 2)
		b.ends("cadbc", 0, 2, 4)
	}
	opened := grouped(1, many(open(0), api.MaxCode-1, match())...)
	ask(t, opened, 2).ends("ab", 1, 1, 2)
	// Each split leads to the next one, and to the last but one: all ways read one byte there.
	fan := of()
	for at := range api.MaxCode - 2 {
		fan.Insts = append(fan.Insts, split(at+1, api.MaxCode-2))
	}
	fan.Insts = append(fan.Insts, only('b'), match())
	ask(t, fan, 2).ends("aab", 0, 3)
	ask(t, fan, 3).longest("aab", 0, -1)
}

// TestSameSteps: P4, two automata of which the same is asked do the same.
func TestSameSteps(t *testing.T) {
	next := numbers(12)
	for range 100 {
		p := made(next, 25)
		room := 2 + next(4)
		one, two := ask(t, p, room), ask(t, p, room)
		for range 20 {
			line := madeLine(next, 10)
			at := next(len(line) + 1)
			for _, a := range []asked{one, two} {
				a.Longest(line, at)
				a.Ends(line, at)
			}
			if one.Steps() != two.Steps() || one.States() != two.States() || one.Flushes() != two.Flushes() {
				t.Fatalf("%v, room %d: %d and %d steps, %d and %d states, %d and %d flushes", p, room, one.Steps(), two.Steps(), one.States(), two.States(), one.Flushes(), two.Flushes())
			}
		}
	}
}
