package engine_test

import (
	"slices"
	"strings"
	"testing"

	"dredge/api"
	"dredge/engine"
)

// TestAllGoesOn: P21.3 and P21.5, what All tells first is Find from 0; each one is Find from where it begins, and from where one goes on.
func TestAllGoesOn(t *testing.T) {
	next := numbers(63)
	several := 0
	for i := range 800 {
		mode := modes()[i%4]
		pattern := madePattern(next, mode, i%2 == 0)
		if engine.Must(pattern, api.Plan{Mode: mode, Room: 2}).Size() > 200 {
			continue
		}
		line := madeLine(next, mode, 9)
		r := readingOf(line, mode)
		for _, a := range askAll(t, pattern, mode)[:2] {
			all := slices.Collect(a.All(line))
			rises(t, pattern, line, all)
			from := 0
			for _, part := range all {
				a.tells(line, from, part)
				a.tells(line, part.From, part)
				if from = part.To; part.From == part.To {
					if i := slices.Index(r.places, from) + 1; i < len(r.places) {
						from = r.places[i]
					} else {
						from = len(line) + 1
					}
				}
			}
			if from <= len(line) {
				a.none(line, from)
			}
			if len(all) > 1 {
				several++
			}
		}
	}
	if several < 200 {
		t.Errorf("only %d lines with several parts", several)
	}
}

// TestAllAgain: P3, a range may be left early, gone over again, gone over within itself; and calls of the engine within it do not show in it.
func TestAllAgain(t *testing.T) {
	for _, pattern := range []string{`a*`, `\(a*\)\1`, `a\|`, `[^-]`} {
		for _, a := range askAll(t, pattern, neither) {
			line := "baa-aaaab"
			want := slices.Collect(a.All(line))
			if len(want) < 5 {
				t.Fatalf("%q: %v", pattern, want)
			}
			seq := a.All(line)
			for i := range want {
				var l []api.Span
				for part := range seq {
					if l = append(l, part); len(l) > i {
						break
					}
				}
				if !slices.Equal(l, want[:i+1]) {
					t.Fatalf("%q, %v: %v, and then it was left; want %v", pattern, a.plan, l, want[:i+1])
				}
			}
			var outer []api.Span
			for part := range seq {
				outer = append(outer, part)
				if l := slices.Collect(seq); !slices.Equal(l, want) {
					t.Fatalf("%q, %v: within: %v, want %v", pattern, a.plan, l, want)
				}
				a.Find("aaaaaaaaaaaaaaaaa", 3)
				a.Find("", 7)
				for range a.All("-a-") {
					break
				}
			}
			if !slices.Equal(outer, want) {
				t.Fatalf("%q, %v: around: %v, want %v", pattern, a.plan, outer, want)
			}
		}
	}
}

// TestAllIsAsked: P21.3, nothing is done ahead of a range, nor behind where it was left.
func TestAllIsAsked(t *testing.T) {
	for _, pattern := range []string{`a`, `\(a\)\1`} {
		a := ask(t, pattern, api.Plan{Room: 10})
		line := strings.Repeat("a", 1000)
		seq := a.All(line)
		if a.Steps() != 0 {
			t.Errorf("%q: %d steps, and nothing was asked", pattern, a.Steps())
		}
		for range seq {
			break
		}
		once := a.Steps()
		if once == 0 || once > a.Bound(len(line)) {
			t.Errorf("%q: %d steps for one part", pattern, once)
		}
	}
}

// TestAllOfMany: P21.3, many parts, and many without bytes.
func TestAllOfMany(t *testing.T) {
	for _, mode := range modes() {
		for _, a := range askAll(t, `a*`, mode) {
			line := strings.Repeat("é", 300)
			step := 1
			if mode.Chars {
				step = 2
			}
			var want []api.Span
			for at := 0; at <= len(line); at += step {
				want = append(want, api.Span{From: at, To: at})
			}
			a.goesOver(line, want)
		}
		for _, a := range askAll(t, `\(.\)`, mode) {
			if l := slices.Collect(a.All(strings.Repeat("ab", 300))); len(l) != 600 || l[599] != (api.Span{From: 599, To: 600}) {
				t.Errorf("%v: %d parts", a.plan, len(l))
			}
		}
	}
}
