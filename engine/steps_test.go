package engine_test

import (
	"strings"
	"testing"

	"dredge/api"
	"dredge/back"
	"dredge/compile"
	"dredge/engine"
	"dredge/scan"
)

// stepper looks for parts, and counts its steps.
type stepper interface {
	Find(line string, from int) (api.Span, bool, api.Errno)
	Steps() int
}

// besides is what chapter 18 or 20 has for a pattern and a plan.
func besides(t *testing.T, a asked) stepper {
	t.Helper()
	if a.Route() == api.Lazy {
		s, e := scan.New(a.Tree(), a.plan.Mode, a.plan.Room)
		if e != api.OK {
			t.Fatal(e)
		}
		return s
	}
	p, e := compile.Counted(a.Tree(), a.plan.Mode)
	if e != api.OK {
		t.Fatal(e)
	}
	b, e := back.New(p, a.plan.Plain)
	if e != api.OK {
		t.Fatal(e)
	}
	return b
}

// TestStepsAreCounted: P21.4, as chapters 18 and 20 count them, of Find and All; the room, and whether the machine is plain, show in them. They never fall.
func TestStepsAreCounted(t *testing.T) {
	next := numbers(90)
	for i := range 300 {
		mode := modes()[i%4]
		pattern := madePattern(next, mode, i%2 == 0)
		if engine.Must(pattern, api.Plan{Mode: mode, Room: 2}).Size() > 200 {
			continue
		}
		for _, a := range askAll(t, pattern, mode) {
			other := besides(t, a)
			for range 6 {
				r := readingOf(madeLine(next, mode, 5), mode)
				from := r.places[next(len(r.places))]
				last := a.Steps()
				a.find(r.line, from)
				other.Find(r.line, from)
				if a.Steps() != other.Steps() || a.Steps() < last {
					t.Fatalf("%q, %v: %d steps, then %d; want %d", pattern, a.plan, last, a.Steps(), other.Steps())
				}
				last = a.Steps()
				a.Find(r.line, -1)
				if a.Steps() != last {
					t.Fatalf("%q, %v: steps where all was refused", pattern, a.plan)
				}
			}
			first := a.Steps()
			last := first
			for range a.All("abab") {
				if a.Steps() < last {
					t.Fatalf("%q, %v: %d steps, then %d", pattern, a.plan, last, a.Steps())
				}
				last = a.Steps()
			}
			if a.Steps() == first {
				t.Fatalf("%q, %v: All did no steps", pattern, a.plan)
			}
		}
	}
}

// TestStepsOfRooms: P21.4, the room counts: where few states are kept, more is done; and so does a plain machine, which does not remember.
func TestStepsOfRooms(t *testing.T) {
	line := strings.Repeat("abaabb", 200)
	few, many := ask(t, `c[ab]\{7\}a[ab]*`, api.Plan{Room: 2}), ask(t, `c[ab]\{7\}a[ab]*`, api.Plan{Room: api.MaxRoom})
	for range 3 {
		few.none(line, 0)
		many.none(line, 0)
	}
	if few.Steps() < 2*many.Steps() {
		t.Errorf("few: %d steps, many: %d", few.Steps(), many.Steps())
	}
	line = strings.Repeat("a", 18)
	plain, other := ask(t, `\(a\|aa\)*b`, api.Plan{Room: 2, Route: api.Machine, Plain: true}), ask(t, `\(a\|aa\)*b`, api.Plan{Room: 2, Route: api.Machine})
	plain.none(line, 0)
	other.none(line, 0)
	if plain.Steps() < 10*other.Steps() {
		t.Errorf("plain: %d steps, not: %d", plain.Steps(), other.Steps())
	}
}

// TestStepsWhereWaysAreMany: P21.4, of machines that remember, where who does not would go on for ever; with groups that are referred to, within turns, and within one another.
func TestStepsWhereWaysAreMany(t *testing.T) {
	for pattern, long := range map[string]int{
		`\(a*\)*b`: 300, `\(\(a*\)*\)*b`: 200, `\(a\|aa\)*b`: 300, `\(a*\)\{2,\}b`: 200, `\(a\{0,3\}\)\{0,9\}b`: 100, `a*a*a*a*a*b`: 300,
		`\(a*\)\1b`: 80, `\(a*\)*\1b`: 40, `\(\(a*\)\2a*\)*b`: 25, `\(a*\)\(a*\)\2\1b`: 20, `\(\(a*\)a*\)*\2\1b`: 12, `\(\(\(a*\)\3\)*\2\)*b`: 12, `\(\(\(\(a*\)a*\)a*\)\4\3\2a*\)*b`: 7,
		`\(a\{0,3\}\)\{2,4\}\1b`: 25, `\(\(a\{1,2\}\)\{1,2\}\)\{1,\}\2b`: 30,
		`ab`: 500, `\(a\|a\)\(a\|a\)\(a\|a\)b`: 300,
	} {
		for _, mode := range []api.Mode{neither, both} {
			a := ask(t, pattern, api.Plan{Mode: mode, Room: 2, Route: api.Machine})
			line := strings.Repeat("a", long)
			a.none(line, 0)
			a.none(line, long/2)
			a.find(line+"b", 0)
			a.find("c"+line+"b", 0)
		}
	}
}

// TestStepsOfShort: P21.4, in lines of few bytes or none.
func TestStepsOfShort(t *testing.T) {
	for _, pattern := range []string{``, `a`, `^$`, `a*`, `a\{0\}`, `\(\)\1`, `\(\(\)\{255\}\)\{5\}`, `\(\(\)\2\{255\}\)\{3\}`, `\(^\|$\|\)\{255\}`, `\(a*\)\{255,\}\1`} {
		for _, a := range askAll(t, pattern, neither) {
			if a.plan.Plain && a.Size() > 100 {
				continue
			}
			for _, line := range []string{"", "a", "-", "aa"} {
				for from := range len(line) + 1 {
					a.find(line, from)
				}
			}
		}
	}
}
