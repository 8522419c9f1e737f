package scan

import (
	"slices"
	"strings"
	"testing"

	"dredge/api"
	"dredge/parse"
)

// TestRooms: P18.1, each of the automata keeps as many states as there is room for, and no more.
func TestRooms(t *testing.T) {
	n, err := parse.Parse(`[ab]*a[ab]\{5\}\|[ab]\{5\}b[ab]*`, api.Mode{})
	if err != nil {
		t.Fatal(err)
	}
	line := strings.Repeat("abbaabababbbaaab", 20)
	for _, room := range []int{2, 3, 4, 5, 10, api.MaxRoom} {
		s, e := New(n, api.Mode{}, room)
		if e != api.OK {
			t.Fatal(e)
		}
		behindMost, forthMost := 0, 0
		for from := range len(line) {
			s.Find(line, from)
			s.Find(line[:from], from/2)
			if s.behind.States() > room || s.forth.States() > room {
				t.Fatalf("room %d: %d and %d states", room, s.behind.States(), s.forth.States())
			}
			behindMost, forthMost = max(behindMost, s.behind.States()), max(forthMost, s.forth.States())
		}
		if room < 10 && (behindMost != room || forthMost != room) {
			t.Errorf("room %d: at most %d and %d states", room, behindMost, forthMost)
		}
		given := []bool{s.behind.Flushes() > 0, s.forth.Flushes() > 0}
		if room < 10 && slices.Contains(given, false) || room == api.MaxRoom && slices.Contains(given, true) {
			t.Errorf("room %d: %d and %d flushes", room, s.behind.Flushes(), s.forth.Flushes())
		}
	}
}
