package hunt_test

import (
	"slices"
	"testing"
)

// told is what an iterator tells till it ends, or is left behind so many.
func told(all func(func(int, int) bool), most int) []stand {
	var l []stand
	for place, word := range all {
		if len(l) == most {
			break
		}
		l = append(l, stand{place, word})
	}
	return l
}

// TestLeftEarly: P3, a range over All may be left at each point, and gone over again.
func TestLeftEarly(t *testing.T) {
	a := ask(t, false, "ab", "a", "b", "ba", "aba", "ab")
	const line = "xabaababxxaba"
	want := a.all(line)
	all := a.All(line)
	for most := range len(want) + 2 {
		for range 2 {
			if got := told(all, most); !slices.Equal(got, want[:min(most, len(want))]) {
				t.Errorf("left behind %d: %v, want %v", most, got, want)
			}
		}
		a.holds(line)
	}
	if got := told(all, 1000); !slices.Equal(got, want) {
		t.Errorf("gone over again: %v, want %v", got, want)
	}
	if len(want) < 15 {
		t.Errorf("only %d told", len(want))
	}
}

// TestNothingBehindLeft: P3, who leaves is asked no more.
func TestNothingBehindLeft(t *testing.T) {
	a := ask(t, false, "a", "aa", "a")
	for most := 1; most <= 12; most++ {
		calls := 0
		a.All("aaaa")(func(int, int) bool {
			calls++
			return calls < most
		})
		if want := min(most, 4*2+3); calls != want {
			t.Errorf("asked %d times, want %d", calls, want)
		}
	}
}

// TestWithin: P3, calls within a range, ranges over the same All among them, show in neither.
func TestWithin(t *testing.T) {
	a := ask(t, true, "ab", "b", "bab", "a")
	const line, other = "ababAB", "bbaBab"
	want := a.all(line)
	all := a.All(line)
	var got []stand
	for place, word := range all {
		got = append(got, stand{place, word})
		if inner := told(all, 1000); !slices.Equal(inner, want) {
			t.Errorf("within: %v, want %v", inner, want)
		}
		told(all, 2)
		a.holds(other)
		a.nextOf(want, line, place)
	}
	if !slices.Equal(got, want) {
		t.Errorf("%v, want %v", got, want)
	}
}

// TestManyRanges: P3 and P4, two that are gone over in turns.
func TestManyRanges(t *testing.T) {
	a := ask(t, false, "ab", "b")
	one, two := a.All("abab"), a.All("bbab")
	var got []stand
	for place, word := range one {
		for p, w := range two {
			got = append(got, stand{10*place + p, 10*word + w})
		}
	}
	var want []stand
	for _, o := range standsIn(a.words, false, "abab") {
		for _, i := range standsIn(a.words, false, "bbab") {
			want = append(want, stand{10*o.place + i.place, 10*o.word + i.word})
		}
	}
	if !slices.Equal(got, want) {
		t.Errorf("%v, want %v", got, want)
	}
}

// TestStepsWithin: P19.4, steps are told while a range is gone over, never fall, and stay when it is left: so many at least as bytes were gone over, and words told.
func TestStepsWithin(t *testing.T) {
	a := ask(t, false, "ab", "b", "abab")
	const line = "xxababab"
	start := a.Steps()
	last := start
	count := 0
	for place, word := range a.All(line) {
		count++
		least := place + len(a.words[word]) + count
		if now := a.Steps(); now < last || now-start < least {
			t.Errorf("%d steps, want %d at least, and no fewer than %d", now-start, least, last-start)
		}
		last = a.Steps()
	}
	for most := range count {
		begun := a.Steps()
		if told(a.All(line), most); a.Steps()-begun < most {
			t.Errorf("%d steps where %d words were told", a.Steps()-begun, most)
		}
	}
	// Who makes an iterator has not gone over it.
	begun := a.Steps()
	a.All(line)
	if a.Steps() != begun {
		t.Errorf("%d steps, and nothing was gone over", a.Steps()-begun)
	}
}
