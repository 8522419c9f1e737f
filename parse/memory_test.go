package parse_test

import (
	"testing"

	"dredge/api"
	"dredge/parse"
)

// memory notes where the lists of some trees stand, spare room too, and tells whether a place came up twice.
type memory struct {
	ranges map[*api.Range]bool
	nodes  map[*api.Node]bool
	twice  bool
}

func (m *memory) note(n api.Node) {
	l := n.Ranges[:cap(n.Ranges)]
	for i := range l {
		m.twice = m.twice || m.ranges[&l[i]]
		m.ranges[&l[i]] = true
	}
	kids := n.Kids[:cap(n.Kids)]
	for i := range kids {
		m.twice = m.twice || m.nodes[&kids[i]]
		m.nodes[&kids[i]] = true
		if i < len(n.Kids) {
			m.note(kids[i])
		}
	}
}

// TestNewMemory: P3, no list of an answer shares memory with another one, or with another answer's.
func TestNewMemory(t *testing.T) {
	for _, pattern := range []string{"", "a", "aa", "..", "a*", `a\|a`, `\(a\)`, `\([ab]\|[ab]c*\)\(.\|.\)*\1[[:digit:]x][[:digit:]x]$`, `\(\(\(a\)\)\)`} {
		for _, mode := range modes() {
			m := memory{ranges: map[*api.Range]bool{}, nodes: map[*api.Node]bool{}}
			for range 3 {
				n, err := parse.Parse(pattern, mode)
				if err != nil {
					t.Errorf("Parse(%q, %v): %v", pattern, mode, err)
				}
				m.note(n)
			}
			if m.twice {
				t.Errorf("Parse(%q, %v) shares memory", pattern, mode)
			}
		}
	}
}

// TestNewErrors: P2, an error is a new one each time, and what is done to it shows nowhere.
func TestNewErrors(t *testing.T) {
	for _, pattern := range []string{`\`, `x\)`, `\(`, `x\1`, "a****************************************"} {
		_, first := parse.Parse(pattern, neither)
		_, second := parse.Parse(pattern, neither)
		a, b := first.(*api.Bad), second.(*api.Bad)
		if a == b || *a != *b {
			t.Errorf("Parse(%q): %v and %v", pattern, first, second)
		}
		kept := *b
		a.Code, a.At = 99, 99
		if _, third := parse.Parse(pattern, neither); *third.(*api.Bad) != kept || *b != kept {
			t.Errorf("Parse(%q) once more: %v, not %v", pattern, third, &kept)
		}
	}
}
