package hunt_test

import (
	"slices"
	"strconv"
	"strings"
	"testing"

	"dredge/api"
	"dredge/hunt"
)

// stand is that a word stands at a place.
type stand struct{ place, word int }

// standsIn is where words stand in a line, by the chapter's words alone: each word is tried at each place.
func standsIn(words []string, fold bool, line string) []stand {
	var l []stand
	for place := range len(line) + 1 {
		for number, word := range words {
			if begins(line[place:], word, fold) {
				l = append(l, stand{place, number})
			}
		}
	}
	return l
}

func begins(line, word string, fold bool) bool {
	if len(line) < len(word) {
		return false
	}
	for i := range len(word) {
		if !alike(line[i], word[i], fold) {
			return false
		}
	}
	return true
}

func alike(a, b byte, fold bool) bool {
	const great, small = "ABCDEFGHIJKLMNOPQRSTUVWXYZ", "abcdefghijklmnopqrstuvwxyz"
	letter := func(c byte) int { return max(strings.IndexByte(great, c), strings.IndexByte(small, c)) }
	return a == b || fold && letter(a) >= 0 && letter(a) == letter(b)
}

// asked is a hunt, with what it is of: what it answers is held against the promises.
type asked struct {
	*hunt.Hunt
	t     *testing.T
	words []string
	fold  bool
}

func ask(t *testing.T, fold bool, words ...string) asked {
	t.Helper()
	h, e := hunt.New(words, fold)
	if h == nil || e != api.OK {
		t.Fatalf("New(%s, %v): %v", brief(words), fold, e)
	}
	if h.Steps() != 0 {
		t.Fatalf("New(%s, %v): %d steps, and nothing was asked", brief(words), fold, h.Steps())
	}
	return asked{h, t, words, fold}
}

// done is how many steps something does.
func (a asked) done(what func()) int {
	steps := a.Steps()
	what()
	return a.Steps() - steps
}

// bounded: so many steps are not too few, and no more than 16 times a number.
func (a asked) bounded(done, least, most int, line string) {
	a.t.Helper()
	if done < least || done > 16*most {
		a.t.Fatalf("%s, %v, in %q: %d steps, want %d to %d", brief(a.words), a.fold, short(line), done, least, 16*most)
	}
}

// all is what All tells, gone over to its end: no byte can be left out, and whatever is told is a step, too.
func (a asked) all(line string) []stand {
	a.t.Helper()
	var l []stand
	done := a.done(func() {
		for place, word := range a.All(line) {
			l = append(l, stand{place, word})
		}
	})
	a.bounded(done, len(line)+len(l), len(line)+1+len(l), line)
	return l
}

// next: Next from a place tells this, and does no more steps than it may.
func (a asked) next(line string, from int, want stand, there bool) {
	a.t.Helper()
	least, rest := 0, 0
	if from >= 0 && from <= len(line) {
		rest = len(line) - from
		least = rest
	}
	if there {
		// The word's last byte is gone over, and so are all ahead of it; the word is told.
		least = want.place + len(a.words[want.word]) - from + 1
	}
	done := a.done(func() {
		if place, word, ok := a.Next(line, from); (stand{place, word}) != want || ok != there {
			a.t.Fatalf("%s, %v: Next(%q, %d): %d, %d, %v, want %v, %v", brief(a.words), a.fold, short(line), from, place, word, ok, want, there)
		}
	})
	a.bounded(done, least, rest+1, line)
}

// nextOf: Next from a place tells the first of what stands in a line.
func (a asked) nextOf(l []stand, line string, from int) {
	a.t.Helper()
	at := slices.IndexFunc(l, func(s stand) bool { return s.place >= from })
	if from < 0 || from > len(line) || at < 0 {
		a.next(line, from, stand{}, false)
		return
	}
	a.next(line, from, l[at], true)
}

// holds: All and Next, from each place and from numbers that are none, tell of a line what the chapter says. It tells how much stands there.
func (a asked) holds(line string) int {
	a.t.Helper()
	want := standsIn(a.words, a.fold, line)
	if got := a.all(line); !slices.Equal(got, want) {
		a.t.Fatalf("%s, %v: All(%q): %v, want %v", brief(a.words), a.fold, short(line), got[:min(len(got), 50)], want[:min(len(want), 50)])
	}
	for from := -2; from <= len(line)+2; from++ {
		a.nextOf(want, line, from)
	}
	return len(want)
}

// brief is the first words, and of each its beginning.
func brief(words []string) string {
	s := ""
	for _, word := range words[:min(len(words), 6)] {
		s += strconv.Quote(short(word)) + " "
	}
	return s
}

// short is the beginning of a line.
func short(line string) string {
	if len(line) > 60 {
		return line[:60] + ".."
	}
	return line
}

// numbers gives numbers below a bound, always the same ones.
func numbers(seed uint32) func(int) int {
	return func(below int) int {
		seed = seed*1664525 + 1013904223
		return int(seed>>8) % below
	}
}

// made is so many letters of an alphabet.
func made(next func(int) int, alphabet string, letters int) string {
	l := make([]byte, letters)
	for i := range l {
		l[i] = alphabet[next(len(alphabet))]
	}
	return string(l)
}

// textsOf is all texts of at most so many letters of an alphabet, that without letters ahead.
func textsOf(alphabet string, most int) []string {
	l := []string{""}
	last := l
	for range most {
		var next []string
		for _, text := range last {
			for i := range len(alphabet) {
				next = append(next, text+alphabet[i:i+1])
			}
		}
		l, last = append(l, next...), next
	}
	return l
}

// nested is so many words: a letter once, twice, and so on, and behind them a text.
func nested(letter, behind string, words int) []string {
	var l []string
	for i := range words {
		l = append(l, strings.Repeat(letter, i+1)+behind)
	}
	return l
}

// folded is words in either case: with fold, and without.
func folded() []bool { return []bool{false, true} }
