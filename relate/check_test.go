package relate_test

import (
	"strings"
	"testing"
	"time"

	"dredge/api"
	"dredge/relate"
)

// row is proofs of one byte each, one behind the other from a place on.
func row(from, times int) []api.Proof {
	l := make([]api.Proof, times)
	for i := range l {
		l[i] = proof(from+i, from+i+1)
	}
	return l
}

// TestCheckExamples: P12.3, by kinds of nodes: what is a proof, and what is nearly one.
func TestCheckExamples(t *testing.T) {
	one := proof(0, 1)
	for _, x := range []struct {
		pattern, line string
		p             api.Proof
		want          bool
	}{
		{"a*", "a", proof(0, 1, one), true},
		{"a*", "a", proof(0, 1, proof(0, 0), one), false},
		{"a*", "b", proof(0, 1, one), false},
		{"", "a", proof(1, 1), true},
		{"", "a", proof(0, 1), false},
		{"", "a", proof(0, 0, proof(0, 0)), false},
		{"", "a", api.Proof{Which: 1}, false},
		{"a", "a", one, true},
		{"a", "a", proof(0, 0), false},
		{"a", "a", proof(0, 2), false},
		{"a", "a", proof(0, 1, one), false},
		{"a", "a", api.Proof{To: 1, Which: 1}, false},
		{"a", "a", proof(1, 2), false},
		{"a", "aa", proof(1, 2), true},
		{".", "", proof(0, 0), false},
		{".", "", proof(0, 1), false},
		{".", "a", proof(1, 1), false},
		{"^", "a", proof(0, 0), true},
		{"^", "a", proof(1, 1), false},
		{"$", "a", proof(1, 1), true},
		{"$", "a", proof(0, 0), false},
		{"$", "a", proof(0, 1), false},
		{"ab", "ab", proof(0, 2, proof(0, 1), proof(1, 2)), true},
		{"ab", "ab", proof(0, 1, proof(0, 1), proof(1, 2)), false},
		{"ab", "ab", proof(0, 2, proof(0, 1)), false},
		{"ab", "ab", proof(0, 1, proof(0, 1)), false},
		{"ab", "ab", proof(0, 2, proof(0, 1), proof(1, 2), proof(2, 2)), false},
		{"ab", "abb", proof(0, 3, proof(0, 1), proof(2, 3)), false},
		{"ab", "ab", proof(1, 2, proof(0, 1), proof(1, 2)), false},
		{"ab", "ab", api.Proof{To: 2, Which: 1, Kids: row(0, 2)}, false},
		{`a\|b`, "a", which(0, one), true},
		{`a\|b`, "a", which(1, one), false},
		{`a\|b`, "b", which(1, one), true},
		{`a\|b`, "b", which(2, one), false},
		{`a\|b`, "b", which(-1, one), false},
		{`a\|b`, "b", which(1<<62, one), false},
		{`a\|b`, "a", proof(0, 0), false},
		{`a\|b`, "ab", proof(0, 2, one, proof(1, 2)), false},
		{`a\|b`, "a", proof(0, 0, one), false},
		{`a\|b`, "aa", proof(0, 2, one), false},
		{`\(a\)`, "a", proof(0, 1, one), true},
		{`\(a\)`, "a", proof(0, 1), false},
		{`\(a\)`, "a", proof(0, 0, one), false},
		{`\(a\)`, "a", proof(0, 1, one, proof(1, 1)), false},
		{`\(a\)`, "a", api.Proof{To: 1, Which: 1, Kids: row(0, 1)}, false},
		{`\(a\)`, "aa", proof(0, 2, proof(1, 2)), false},
		{`\(a*\)\1`, "aa", proof(0, 2, proof(0, 1, proof(0, 1, one)), proof(1, 2)), true},
		{`\(a*\)\1`, "aa", proof(0, 1, proof(0, 1, proof(0, 1, one)), proof(1, 1)), false},
		{`\(a*\)\1`, "aa", proof(0, 2, proof(0, 2, proof(0, 2, row(0, 2)...)), proof(2, 2)), false},
		{`\(a*\)\1`, "ab", proof(0, 2, proof(0, 1, proof(0, 1, one)), proof(1, 2)), false},
		{`\(\(a\)\|b\)*\2`, "aba", proof(0, 3,
			proof(0, 2, proof(0, 1, which(0, proof(0, 1, one))), proof(1, 2, which(1, proof(1, 2)))), proof(2, 3)), true},
		{`\(\(a\)\|b\)*\2`, "bba", proof(0, 3,
			proof(0, 2, proof(0, 1, which(1, one)), proof(1, 2, which(1, proof(1, 2)))), proof(2, 3)), false},
		{`\(a*\)\{2\}\1`, "a", proof(0, 1,
			proof(0, 1, proof(0, 1, proof(0, 1, one)), proof(1, 1, proof(1, 1))), proof(1, 1)), true},
		{`\(a*\)\{1,2\}\1`, "a", proof(0, 1,
			proof(0, 1, proof(0, 1, proof(0, 1, one)), proof(1, 1, proof(1, 1))), proof(1, 1)), false},
		{`a\{2,3\}`, "aaaa", proof(0, 1, row(0, 1)...), false},
		{`a\{2,3\}`, "aaaa", proof(0, 2, row(0, 2)...), true},
		{`a\{2,3\}`, "aaaa", proof(0, 3, row(0, 3)...), true},
		{`a\{2,3\}`, "aaaa", proof(0, 4, row(0, 4)...), false},
		{`a\{2,3\}`, "aaaa", proof(0, 3, row(0, 2)...), false},
		{`a\{2,3\}`, "aaaa", proof(1, 4, row(1, 3)...), true},
		{`a\{2,3\}`, "aaaa", api.Proof{To: 2, Which: 1, Kids: row(0, 2)}, false},
		{`a\{2,3\}`, "aaaa", proof(0, 3, proof(0, 1), proof(2, 3)), false},
		{`a\{0\}`, "a", proof(0, 0), true},
		{`a\{0\}`, "a", proof(0, 1, one), false},
		{`a*`, "a", proof(0, 0), true},
		{`a*`, "a", proof(0, 1), false},
	} {
		if relate.Check(of(t, x.pattern, neither), x.line, x.p, neither) != x.want {
			t.Errorf("Check of %q in %q, %v: not %v", x.pattern, x.line, x.p, x.want)
		}
	}
}

// TestCheckPlaces: P12.3, a proof begins at a place of the line.
func TestCheckPlaces(t *testing.T) {
	for _, x := range []struct {
		line string
		mode api.Mode
		at   int
		want bool
	}{
		{"", neither, 0, true}, {"", neither, 1, false}, {"", neither, -1, false}, {"", chars, 0, true}, {"", chars, 1, false}, {"", chars, -1, false},
		{"é", neither, 1, true}, {"é", chars, 1, false}, {"é", both, 1, false}, {"é", fold, 1, true}, {"é", chars, 2, true}, {"é", chars, 3, false},
		{"\xc3a", chars, 1, true}, {"\xe2\x82", chars, 1, true}, {"€", chars, 2, false}, {"€", chars, 3, true},
		{"a", neither, 1 << 62, false}, {"a", chars, -1 << 63, false},
	} {
		if relate.Check(empty(), x.line, proof(x.at, x.at), x.mode) != x.want {
			t.Errorf("Check in %q at %d, %v: not %v", x.line, x.at, x.mode, x.want)
		}
	}
	// What begins within a character is a character's byte by bytes alone.
	continued := char(0xa9)
	if !relate.Check(continued, "é", proof(1, 2), neither) || relate.Check(continued, "é", proof(1, 2), chars) {
		t.Error("Check of the byte A9")
	}
	if !relate.Check(char(0xe9), "é", proof(0, 2), chars) || relate.Check(char(0xe9), "é", proof(0, 1), chars) || relate.Check(char(0xe9), "é", proof(0, 2), neither) {
		t.Error("Check of é")
	}
	if relate.Check(set(0, 1114111), "é", proof(0, 2), chars) {
		t.Error("Check of a tree that is not right")
	}
	if !relate.Check(char('a'), "a", proof(0, 1), neither) || relate.Check(char('a'), "a", proof(0, 1), fold) {
		t.Error("Check of a tree that is not right with Fold")
	}
}

// TestCheckFold: P12.3, what is alike with Fold.
func TestCheckFold(t *testing.T) {
	for _, x := range []struct {
		line string
		mode api.Mode
		want bool
	}{
		{"ab", neither, false}, {"aa", neither, true}, {"aA", neither, false}, {"aA", fold, true}, {"Aa", both, true}, {"zZ", fold, true},
		{"@`", fold, false}, {"[{", fold, false}, {"\xc0\xe0", fold, false}, {"kK", chars, false}, {"kK", both, true},
	} {
		n := of(t, `\(.\)\1`, x.mode)
		p := proof(0, 2, proof(0, 1, proof(0, 1)), proof(1, 2))
		if relate.Check(n, x.line, p, x.mode) != x.want {
			t.Errorf("Check in %q, %v: not %v", x.line, x.mode, x.want)
		}
	}
}

// TestCheckLarge: P12.3, trees and lines that Ends refuses.
func TestCheckLarge(t *testing.T) {
	a := char('a')
	line := strings.Repeat("a", 70000)
	large := rep(rep(a, 255, 255), 255, 255)
	turns := make([]api.Proof, 255)
	for i := range turns {
		turns[i] = proof(i*255, i*255+255, row(i*255, 255)...)
	}
	p := proof(0, 65025, turns...)
	if !relate.Check(large, line, p, neither) || relate.Check(large, line[:65024], p, neither) {
		t.Error("Check of 255 times 255 turns")
	}
	turns[100].Kids[100].To++
	if relate.Check(large, line, p, neither) {
		t.Error("Check of a turn that ends elsewhere")
	}
	wide := cat(many(a, 1999)...)
	if p := proof(5, 2004, row(5, 1999)...); !relate.Check(wide, line, p, neither) {
		t.Error("Check of 2000 nodes")
	}
	if p := proof(5, 2005, row(5, 2000)...); relate.Check(cat(many(a, 2000)...), line, p, neither) {
		t.Error("Check of 2001 nodes")
	}
	deep, in := nested(40), proof(3, 4)
	for range 39 {
		in = proof(3, 4, in)
	}
	if !relate.Check(deep, line, in, neither) || relate.Check(nested(41), line, proof(3, 4, in), neither) {
		t.Error("Check of 40 nodes within one another")
	}
}

// TestCheckGroups: P12.3, thirty groups, nine of them referred to.
func TestCheckGroups(t *testing.T) {
	n, p := cat(), proof(0, 39)
	line := strings.Repeat("x", 30) + strings.Repeat("x", 9)
	for i := range 30 {
		n.Kids = append(n.Kids, group(i+1, set(0, 255)))
		p.Kids = append(p.Kids, proof(i, i+1, proof(i, i+1)))
	}
	for i := range 9 {
		n.Kids = append(n.Kids, back(9-i))
		p.Kids = append(p.Kids, proof(30+i, 31+i))
	}
	if !relate.Check(n, line, p, neither) {
		t.Error("Check of nine references")
	}
	for i := range 39 {
		spoilt := line[:i] + "y" + line[i+1:]
		if want := i >= 9 && i < 30; relate.Check(n, spoilt, p, neither) != want {
			t.Errorf("Check with another byte at %d: not %v", i, want)
		}
	}
}

// TestMaxProof: P12.3, a million proofs, and one more.
func TestMaxProof(t *testing.T) {
	line := strings.Repeat("a", 1000000)
	a := star(char('a'))
	if p := proof(0, 999999, row(0, 999999)...); !relate.Check(a, line, p, neither) {
		t.Error("Check of a million proofs")
	}
	if p := proof(0, 1000000, row(0, 1000000)...); relate.Check(a, line, p, neither) {
		t.Error("Check of a million proofs and one")
	}
	// Those that are deeper count, too.
	n := star(group(1, char('a')))
	for _, turns := range []int{499999, 500000} {
		p := proof(0, turns)
		for i := range turns {
			p.Kids = append(p.Kids, proof(i, i+1, proof(i, i+1)))
		}
		if want := 1+2*turns <= 1000000; relate.Check(n, line, p, neither) != want {
			t.Errorf("Check of %d proofs: not %v", 1+2*turns, want)
		}
	}
}

// TestEndlessProofs: P1 and P12.3, proofs that are their own Kids, or have far too many.
func TestEndlessProofs(t *testing.T) {
	loop := proof(0, 0, make([]api.Proof, 2)...)
	loop.Kids[0], loop.Kids[1] = loop, loop
	alone := proof(0, 0, make([]api.Proof, 1)...)
	alone.Kids[0] = alone
	chosen := which(0, proof(0, 0))
	chosen.Kids[0] = chosen
	for _, pattern := range []string{"", "a*", `\(a*\)*`, `\(\(\)\{2\}\)\{2\}`, `\(\|a\)`, `\|a`, `\(\)\(\)`, `\(\)\{0,1\}`, "^", "$"} {
		for _, p := range []api.Proof{loop, alone, chosen} {
			if relate.Check(of(t, pattern, neither), "", p, neither) {
				t.Errorf("Check of %q: a proof without an end", pattern)
			}
		}
	}
	// 255 turns of 255 turns .. of nothing, all in the same memory: there is no end to them, but to the count.
	n, p := group(1, empty()), proof(0, 0, proof(0, 0))
	for range 19 {
		n = rep(n, 255, 255)
		kids := make([]api.Proof, 255)
		for i := range kids {
			kids[i] = p
		}
		p = proof(0, 0, kids...)
	}
	if relate.Check(n, "", p, neither) {
		t.Error("Check of more proofs than can be counted")
	}
}

// TestManyRanges: P12.3, a long line and a class of many ranges are not gone through one for each byte of the other.
func TestManyRanges(t *testing.T) {
	n := set()
	for c := 0x10000; c <= 0x10ffff; c += 2 {
		n.Ranges = append(n.Ranges, api.Range{Lo: c, Hi: c})
	}
	for _, x := range []struct {
		letter string
		want   bool
	}{{"\U00010000", true}, {"\U0010fffe", true}, {"\U0010ffff", false}, {"\U00090000", true}, {"\U00090001", false}} {
		p := proof(0, 400000)
		for i := range 100000 {
			p.Kids = append(p.Kids, proof(4*i, 4*i+4))
		}
		begun := time.Now()
		if relate.Check(star(n), strings.Repeat(x.letter, 100000), p, chars) != x.want {
			t.Errorf("Check of %q: not %v", x.letter, x.want)
		}
		if took := time.Since(begun); took > 20*time.Second {
			t.Errorf("Check of %q took %v", x.letter, took)
		}
	}
}
