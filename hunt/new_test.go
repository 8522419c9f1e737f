package hunt_test

import (
	"slices"
	"strings"
	"testing"

	"dredge/api"
	"dredge/hunt"
)

// refuses: New tells an error, and nothing beside it.
func refuses(t *testing.T, words []string) {
	t.Helper()
	for _, fold := range folded() {
		if h, e := hunt.New(words, fold); h != nil || e != api.ErrArg {
			t.Errorf("New of %d words, %s, %v: %v, want ErrArg", len(words), brief(words), fold, e)
		}
	}
}

// TestHowManyWords: P19.1, 1 to 100.
func TestHowManyWords(t *testing.T) {
	refuses(t, nil)
	refuses(t, []string{})
	for _, count := range []int{api.MaxWords + 1, api.MaxWords + 2, 255, 256, 257, 1000} {
		refuses(t, slices.Repeat([]string{"a"}, count))
		refuses(t, nested("a", "b", count))
	}
	for _, fold := range folded() {
		for _, count := range []int{1, 2, api.MaxWords - 1, api.MaxWords} {
			ask(t, fold, slices.Repeat([]string{"a"}, count)...).holds("ba")
			ask(t, fold, nested("a", "b", count)...).holds("aab")
		}
	}
}

// TestHowManyBytes: P19.1, 1 to 1000, of each word, wherever it stands among the others.
func TestHowManyBytes(t *testing.T) {
	wrong := []string{"", strings.Repeat("a", api.MaxWord+1), strings.Repeat("é", api.MaxWord/2+1), strings.Repeat("b", 100000)}
	for _, bad := range wrong {
		refuses(t, []string{bad})
		refuses(t, []string{"a", bad})
		refuses(t, []string{bad, "a"})
		refuses(t, []string{"a", bad, "b"})
		words := nested("a", "", api.MaxWords)
		for i := range words {
			good := words[i]
			words[i] = bad
			refuses(t, words)
			words[i] = good
		}
		refuses(t, append(words, bad))
	}
	for _, fold := range folded() {
		for _, bytes := range []int{1, 2, api.MaxWord - 1, api.MaxWord} {
			word := strings.Repeat("ab", bytes)[:bytes]
			ask(t, fold, word).holds(word)
			ask(t, fold, "b", word, "a").holds("a" + word[:bytes-1])
		}
		// Characters are not counted, but bytes.
		ask(t, fold, strings.Repeat("é", api.MaxWord/2)).holds("\xa9" + strings.Repeat("é", api.MaxWord/2))
	}
}

// TestGreatest: P19.1, as many words as there may be, each of as many bytes, that share nothing.
func TestGreatest(t *testing.T) {
	next := numbers(77)
	var words []string
	var every []byte
	for b := range 256 {
		every = append(every, byte(b))
	}
	for range api.MaxWords {
		words = append(words, made(next, string(every), api.MaxWord))
	}
	for _, fold := range folded() {
		a := ask(t, fold, words...)
		line := words[99] + words[0] + words[50][1:] + words[50]
		want := []stand{{0, 99}, {1000, 0}, {2999, 50}}
		if got := a.all(line); !slices.Equal(got, want) {
			t.Fatalf("%v, want %v", got, want)
		}
		for i, from := range []int{0, 1, 1001} {
			a.next(line, from, want[i], true)
		}
		a.next(line, 3000, stand{}, false)
	}
}

// TestWordsNotKept: P19.1 and P3, who writes into the words behind New changes nothing; New writes nothing into them, nor behind them.
func TestWordsNotKept(t *testing.T) {
	for _, fold := range folded() {
		words := []string{"He", "she", "HERS", "behind"}
		h, e := hunt.New(words[:3], fold)
		if e != api.OK || !slices.Equal(words, []string{"He", "she", "HERS", "behind"}) {
			t.Fatal(e, words)
		}
		clear(words)
		a := asked{h, t, []string{"He", "she", "HERS"}, fold}
		if a.holds("ushersHe behind HERSHE") == 0 {
			t.Error("nothing stands there")
		}
	}
}
