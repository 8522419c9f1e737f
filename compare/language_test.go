package compare_test

import (
	"slices"
	"strings"
	"testing"
	"unicode/utf8"

	"dredge/api"
)

// reading is a line of characters, as a mode reads it: its units, and the places ahead of them and behind the last one.
type reading struct {
	line   string
	units  []int
	places []int
}

func readingOf(line string, mode api.Mode) reading {
	r := reading{line: line}
	at := 0
	for at < len(line) {
		c, bytes := int(line[at]), 1
		if mode.Chars {
			var letter rune
			letter, bytes = utf8.DecodeRuneInString(line[at:])
			c = int(letter)
		}
		r.units = append(r.units, c)
		r.places = append(r.places, at)
		at += bytes
	}
	r.places = append(r.places, at)
	return r
}

// isIn tells whether a line is in a free tree's language: by chapter 00's relation.
func (r reading) isIn(n api.Node) bool {
	return slices.Contains(r.ends(n, []int{0}), len(r.units))
}

// ends is chapter 00's relation, from several places at once, which count units. (Environments are asked by backreferences alone.)
func (r reading) ends(n api.Node, from []int) []int {
	switch n.Kind {
	case api.NSet:
		return r.behindUnits(n.Ranges, from)
	case api.NBegin:
		return only(from, 0)
	case api.NEnd:
		return only(from, len(r.units))
	case api.NCat:
		for _, kid := range n.Kids {
			from = r.ends(kid, from)
		}
	case api.NAlt:
		var l []int
		for _, kid := range n.Kids {
			l = joined(l, r.ends(kid, from))
		}
		return l
	case api.NGroup:
		return r.ends(n.Kids[0], from)
	case api.NRep:
		return r.turns(n, from)
	}
	return from
}

func (r reading) behindUnits(class []api.Range, from []int) []int {
	var l []int
	for _, at := range from {
		if at < len(r.units) && has(class, r.units[at]) {
			l = append(l, at+1)
		}
	}
	return l
}

// turns goes on, behind the first Min ones, until no turn comes to a new place: one without bytes comes to none.
func (r reading) turns(n api.Node, from []int) []int {
	for range n.Min {
		from = r.ends(n.Kids[0], from)
	}
	all := from
	for k := n.Min; n.Max == api.Infinite || k < n.Max; k++ {
		from = r.ends(n.Kids[0], from)
		known := len(all)
		if all = joined(all, from); len(all) == known {
			break
		}
	}
	return all
}

func has(class []api.Range, c int) bool {
	return slices.ContainsFunc(class, func(x api.Range) bool { return x.Lo <= c && c <= x.Hi })
}

func only(l []int, number int) []int {
	if slices.Contains(l, number) {
		return []int{number}
	}
	return nil
}

// joined is the numbers of both lists, rising, each once.
func joined(a, b []int) []int {
	l := slices.Concat(a, b)
	slices.Sort(l)
	return slices.Compact(l)
}

// letters is the least characters that the classes of made trees tell apart, rising: no other ones come up in a least line.
func letters(mode api.Mode) []string {
	cuts := []int{0}
	for _, bounds := range pool(mode) {
		for i, bound := range bounds {
			cuts = append(cuts, bound+i%2)
		}
	}
	slices.Sort(cuts)
	var l []string
	told := map[string]bool{}
	for _, c := range cuts {
		text, is := textOf(c, mode)
		if by := readers(c, mode); is && !told[by] {
			told[by] = true
			l = append(l, text)
		}
	}
	return l
}

// readers is the classes of made trees in which a character is.
func readers(c int, mode api.Mode) string {
	by := ""
	for _, bounds := range pool(mode) {
		by += map[bool]string{true: "1", false: "0"}[has(set(bounds...).Ranges, c)]
	}
	return by
}

// textOf is a number as a line, if it is a character.
func textOf(c int, mode api.Mode) (string, bool) {
	if !mode.Chars {
		return string([]byte{byte(c)}), c >= 0 && c <= 255
	}
	return string(rune(c)), utf8.ValidRune(rune(c))
}

// less tells whether a line is the less one of two.
func less(a, b string) bool {
	return len(a) < len(b) || len(a) == len(b) && a < b
}

func lessFirst(a, b string) int {
	switch {
	case less(a, b):
		return -1
	case less(b, a):
		return 1
	}
	return 0
}

// linesOf is all lines of some letters that have at most so many bytes, the less ones first.
func linesOf(letters []string, most int) []string {
	l := []string{""}
	for at := 0; at < len(l); at++ {
		for _, letter := range letters {
			if len(l[at])+len(letter) <= most {
				l = append(l, l[at]+letter)
			}
		}
	}
	slices.SortFunc(l, lessFirst)
	return l
}

// language is which lines of some are in a tree's language.
func language(n api.Node, readings []reading) []bool {
	l := make([]bool, len(readings))
	for i, r := range readings {
		l[i] = r.isIn(n)
	}
	return l
}

func readingsOf(lines []string, mode api.Mode) []reading {
	var l []reading
	for _, line := range lines {
		l = append(l, readingOf(line, mode))
	}
	return l
}

// TestModel holds what these tests are held against against what is plain.
func TestModel(t *testing.T) {
	for pattern, want := range map[string]string{
		`a*`: " a aa aaa", `a*b`: "b ab aab", `^a\|b$`: "a b", `\(a\|ab\)\(b\|\)`: "a ab abb", `\(a*\)\{2\}`: " a aa aaa",
		`a\{0\}`: "", `a\{2,3\}`: "aa aaa", `\(^a\)*`: " a", `\(a$\)*`: " a", `[]a]$`: "a", `.b`: "ab bb",
	} {
		var l []string
		for _, line := range linesOf([]string{"a", "b"}, 3) {
			if readingOf(line, neither).isIn(of(t, pattern, neither)) {
				l = append(l, line)
			}
		}
		if got := strings.Join(l, " "); got != want {
			t.Errorf("the model of %q: %q, want %q", pattern, got, want)
		}
	}
	for mode, want := range map[api.Mode]int{neither: 5, chars: 9, fold: 5, both: 9} {
		if l := letters(mode); len(l) != want {
			t.Errorf("letters of %v: %q, want %d", mode, l, want)
		}
	}
}
