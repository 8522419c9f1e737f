package hunt_test

import (
	"slices"
	"strings"
	"testing"

	"dredge/api"
)

// TestExamples: P19.2 and P19.3, the chapter's.
func TestExamples(t *testing.T) {
	for _, c := range []struct {
		words []string
		fold  bool
		line  string
		all   []stand
	}{
		{[]string{"he", "she", "hers"}, false, "ushers", []stand{{1, 1}, {2, 0}, {2, 2}}},
		{[]string{"a", "ab", "a"}, false, "cab", []stand{{1, 0}, {1, 1}, {1, 2}}},
		{[]string{"bcd", "abcde"}, false, "abcdf", []stand{{1, 0}}},
		{[]string{"bcd", "abcde"}, false, "abcde", []stand{{0, 1}, {1, 0}}},
		{[]string{"A"}, true, "aA", []stand{{0, 0}, {1, 0}}},
		{[]string{"A"}, false, "aA", []stand{{1, 0}}},
		{[]string{"a"}, false, "", nil},
		{[]string{"a\nb", "\n"}, false, "ca\nb", []stand{{1, 0}, {2, 1}}},
		{[]string{"é", "\xa9"}, true, "éÉ\xa9", []stand{{0, 0}, {1, 1}, {4, 1}}},
	} {
		a := ask(t, c.fold, c.words...)
		for range 3 {
			if got := a.all(c.line); !slices.Equal(got, c.all) {
				t.Errorf("%q, %v: All(%q): %v, want %v", c.words, c.fold, c.line, got, c.all)
			}
			a.holds(c.line)
		}
	}
	a := ask(t, false, "he", "she", "hers")
	a.next("ushers", 0, stand{1, 1}, true)
	a.next("ushers", 2, stand{2, 0}, true)
	a.next("ushers", 3, stand{}, false)
	a = ask(t, false, "a")
	a.next("a", -1, stand{}, false)
	a.next("a", 1, stand{}, false)
	a.next("a", 2, stand{}, false)
}

// TestFewWords: P19.2 and P19.3, all short words, one or two of them, in any order, and many threes: in all short lines.
func TestFewWords(t *testing.T) {
	words := textsOf("ab", 3)[1:]
	lines := textsOf("ab", 6)
	told := 0
	try := func(l ...string) {
		a := ask(t, false, l...)
		for _, line := range lines {
			told += a.holds(line)
		}
	}
	for i, one := range words {
		try(one)
		for j, two := range words {
			try(one, two)
			try(one, two, words[(3*i+5*j)%len(words)])
		}
	}
	if told < 100000 {
		t.Errorf("only %d words told", told)
	}
}

// TestFewWordsFold: P19.2 and P19.3, likewise in both cases, with fold and without.
func TestFewWordsFold(t *testing.T) {
	words := textsOf("aAb", 2)[1:]
	lines := textsOf("aAbB", 4)
	var told [2]int
	for i, fold := range folded() {
		for _, one := range words {
			for _, two := range words {
				a := ask(t, fold, one, two)
				for _, line := range lines {
					told[i] += a.holds(line)
				}
			}
		}
	}
	if told[0] < 10000 || told[1] < 2*told[0] {
		t.Errorf("%v words told", told)
	}
}

// TestMadeWords: P19.2 and P19.3, many lists of words, in lines that are made of their pieces.
func TestMadeWords(t *testing.T) {
	next := numbers(5)
	told := 0
	for i := range 1500 {
		alphabet := []string{"a", "ab", "abc", "aAbB", "a\x00\xff\xc3"}[i%5]
		var words []string
		for range 1 + next(8) {
			words = append(words, made(next, alphabet, 1+next(1+next(12))))
		}
		a := ask(t, next(2) == 0, words...)
		for range 3 {
			line := ""
			for range next(8) {
				word := words[next(len(words))]
				from := next(len(word))
				line += word[from:from+next(len(word)-from+1)] + made(next, alphabet, next(3))
			}
			told += a.holds(line)
		}
	}
	if told < 20000 {
		t.Errorf("only %d words told", told)
	}
}

// TestManyWords: P19.2 and P19.3, as many words as there may be, all of which stand at one place, in any order of their numbers, some of them more than once.
func TestManyWords(t *testing.T) {
	next := numbers(8)
	same := slices.Repeat([]string{"aa"}, api.MaxWords)
	for range 4 {
		words := nested("a", "", api.MaxWords)
		for i := range words {
			j := next(i + 1)
			words[i], words[j] = words[j], words[i]
		}
		twice := slices.Concat(words[:50], words[:50])
		for _, l := range [][]string{words, twice, same, nested("a", "b", api.MaxWords), nested("ab", "", api.MaxWords)} {
			for _, fold := range folded() {
				a := ask(t, fold, l...)
				a.holds(strings.Repeat("a", 120))
				a.holds(strings.Repeat("a", 120) + "b" + strings.Repeat("a", 30) + "b")
				a.holds(strings.Repeat("ab", 120))
				a.holds(strings.Repeat("aA", 60))
			}
		}
	}
}

// TestLongWords: P19.2 and P19.3, words of as many bytes as there may be, and others that come up within them: what begins first comes to its end last, or never.
func TestLongWords(t *testing.T) {
	a999 := strings.Repeat("a", 999)
	for _, words := range [][]string{
		{a999 + "b", "a", "ab", "b"},
		{a999 + "a", "aa", a999},
		{"b", a999 + "b", a999[:500] + "b"},
		{"b" + a999, a999 + "b", "ba"},
		{strings.Repeat("ab", 500), "ba", strings.Repeat("ba", 499) + "c"},
	} {
		a := ask(t, false, words...)
		for _, line := range []string{a999, a999 + "a", a999 + "ab", "b" + a999 + "b" + a999, strings.Repeat("ab", 1001), strings.Repeat("ba", 499) + "cab", a999[:998] + "cab"} {
			want := standsIn(words, false, line)
			if got := a.all(line); !slices.Equal(got, want) {
				t.Fatalf("%s: All(%q): %d told, want %d", brief(words), short(line), len(got), len(want))
			}
			for _, from := range []int{0, 1, 2, 3, 499, 500, 501, len(line) - 1, len(line)} {
				a.nextOf(want, line, from)
			}
		}
	}
}

// TestLongLines: P19.2 and P19.3, lines that are far longer than all words.
func TestLongLines(t *testing.T) {
	next := numbers(31)
	for _, words := range [][]string{{"a"}, {"aba", "bab", "b"}, {"abaab", "aab", "baabab", "bb"}, {strings.Repeat("a", 12), "aaab"}} {
		line := made(next, "aab", 20000)
		a := ask(t, false, words...)
		want := standsIn(words, false, line)
		if got := a.all(line); !slices.Equal(got, want) || len(want) == 0 {
			t.Fatalf("%q: %d told, want %d", words, len(got), len(want))
		}
		from := 0
		for _, s := range want {
			if s.place >= from {
				a.next(line, from, s, true)
				from = s.place + 1
			}
		}
		a.next(line, from, stand{}, false)
	}
}

// TestEachByte: P19.5, a word of one byte is told as often as that byte stands there; with fold it in both cases, and the letters A to Z alone have two.
func TestEachByte(t *testing.T) {
	var every []byte
	for b := range 256 {
		every = append(every, byte(b))
	}
	line := string(every) + "abcXYZ@[`{\x00\xff" + string(every)
	for _, fold := range folded() {
		for b := range 256 {
			want := strings.Count(line, string(every[b:b+1]))
			switch {
			case !fold:
			case b >= 'A' && b <= 'Z':
				want += strings.Count(line, string(every[b+32:b+33]))
			case b >= 'a' && b <= 'z':
				want += strings.Count(line, string(every[b-32:b-31]))
			}
			a := ask(t, fold, string(every[b:b+1]))
			if got := a.all(line); len(got) != want {
				t.Errorf("the byte %d, %v: told %d times, want %d", b, fold, len(got), want)
			}
			a.holds(line)
			// Beside another word, and at the end of one.
			for _, other := range []string{"b", "\xff\x00"} {
				ask(t, fold, other+string(every[b:b+1]), string(every[b:b+1]), other).holds("a" + other + line[:300])
			}
		}
	}
}

// TestFirst: P19.5, Next is the first that All tells whose place is not below from, in a longer line from each place.
func TestFirst(t *testing.T) {
	next := numbers(64)
	for range 20 {
		words := []string{made(next, "ab", 1+next(4)) + "c", made(next, "abc", 1+next(9)), made(next, "abc", 5+next(5))}
		a := ask(t, false, words...)
		line := made(next, "abc", 400)
		told := a.all(line)
		for from := -1; from <= len(line)+1; from++ {
			a.nextOf(told, line, from)
		}
	}
}

// TestAnyOrder: P19.5, many lines, places and words that are left in the midst, by one hunt: each as if nothing had been asked.
func TestAnyOrder(t *testing.T) {
	next := numbers(17)
	a := ask(t, true, "abab", "ba", "BABB", "abc")
	for range 3000 {
		line := made(next, "abBc", next(20))
		switch next(4) {
		case 0:
			a.holds(line)
		case 1:
			a.nextOf(standsIn(a.words, true, line), line, next(len(line)+3)-1)
		case 2:
			for range a.All(line + "ababbabc") {
				if next(3) == 0 {
					break
				}
			}
		default:
			if got := a.all(line); !slices.Equal(got, standsIn(a.words, true, line)) {
				t.Fatalf("All(%q): %v", line, got)
			}
		}
	}
}
