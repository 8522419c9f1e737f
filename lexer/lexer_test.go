package lexer_test

import (
	"errors"
	"slices"
	"strconv"
	"strings"
	"testing"

	"dredge/api"
	"dredge/lexer"
)

var (
	neither = api.Mode{}
	chars   = api.Mode{Chars: true}
	fold    = api.Mode{Fold: true}
	both    = api.Mode{Chars: true, Fold: true}
)

func modes() []api.Mode {
	return []api.Mode{neither, chars, fold, both}
}

func set(at, end int, ranges ...int) api.Token {
	t := api.Token{Kind: api.TokSet, At: at, End: end}
	for i := 0; i < len(ranges); i += 2 {
		t.Ranges = append(t.Ranges, api.Range{Lo: ranges[i], Hi: ranges[i+1]})
	}
	return t
}

func char(at, end, c int) api.Token {
	return set(at, end, c, c)
}

func plain(kind, at, end int) api.Token {
	return api.Token{Kind: kind, At: at, End: end}
}

func back(at, n int) api.Token {
	return api.Token{Kind: api.TokBack, At: at, End: at + 2, N: n}
}

func rep(at, end, least, most int) api.Token {
	return api.Token{Kind: api.TokRep, At: at, End: end, Min: least, Max: most}
}

// same: in all fields; a list of nothing may be nil or empty.
func same(a, b api.Token) bool {
	return a.Kind == b.Kind && a.At == b.At && a.End == b.End && a.N == b.N && a.Min == b.Min && a.Max == b.Max && slices.Equal(a.Ranges, b.Ranges)
}

func isRead(t *testing.T, pattern string, mode api.Mode, want ...api.Token) {
	t.Helper()
	l, err := lexer.Lex(pattern, mode)
	if err != nil || !slices.EqualFunc(l, want, same) {
		t.Errorf("Lex(%q, %v): %v, %v; not %v", pattern, mode, l, err, want)
	}
}

// isWrong: the error is a *api.Bad, with that number and place, which errors.Is and errors.As find; and no token stands beside it.
func isWrong(t *testing.T, pattern string, mode api.Mode, code api.Errno, at int) {
	t.Helper()
	l, err := lexer.Lex(pattern, mode)
	bad, ok := err.(*api.Bad)
	if !ok || bad == nil || *bad != (api.Bad{Code: code, At: at}) || len(l) != 0 || !errors.Is(err, code) {
		t.Errorf("Lex(%q, %v): %v, %v; not %v at %d", pattern, mode, l, err, code, at)
	}
}

// TestExamples: P7.1, the chapter's examples.
func TestExamples(t *testing.T) {
	isRead(t, "a*", neither, char(0, 1, 97), rep(1, 2, 0, -1))
	isRead(t, "*a", neither, char(0, 1, '*'), char(1, 2, 'a'))
	isRead(t, "^*", neither, plain(api.TokBegin, 0, 1), char(1, 2, '*'))
	isRead(t, `\(*\)`, neither, plain(api.TokOpen, 0, 2), char(2, 3, '*'), plain(api.TokClose, 3, 5))
	isRead(t, "a^b$c", neither, char(0, 1, 'a'), char(1, 2, '^'), char(2, 3, 'b'), char(3, 4, '$'), char(4, 5, 'c'))
	isRead(t, "^$", neither, plain(api.TokBegin, 0, 1), plain(api.TokEnd, 1, 2))
	isRead(t, `\(^a$\)`, neither, plain(api.TokOpen, 0, 2), plain(api.TokBegin, 2, 3), char(3, 4, 'a'), plain(api.TokEnd, 4, 5), plain(api.TokClose, 5, 7))
	isRead(t, `a\{2\}`, neither, char(0, 1, 'a'), rep(1, 6, 2, 2))
	isWrong(t, `a\{,2\}`, neither, api.ErrBrace, 1)
	isWrong(t, `a\{2`, neither, api.ErrBrace, 1)
	isWrong(t, `a\{256\}`, neither, api.ErrBound, 1)
	isWrong(t, `\{2\}`, neither, api.ErrRepeat, 0)
	isRead(t, "[]a]", neither, set(0, 4, 93, 93, 97, 97))
	isRead(t, "[^]a]", neither, set(0, 5, 0, 92, 94, 96, 98, 255))
	isRead(t, "[a-c-]", neither, set(0, 6, 45, 45, 97, 99))
	isWrong(t, "[a-c-e]", neither, api.ErrRange, 4)
	isWrong(t, "[z-a]", neither, api.ErrRange, 1)
	isWrong(t, "[a", neither, api.ErrBracket, 0)
	isRead(t, "[[:digit:]x]", neither, set(0, 12, 48, 57, 120, 120))
	isWrong(t, "[[:dig:]]", neither, api.ErrClass, 1)
	isRead(t, "[[.-.]-0]", neither, set(0, 9, 45, 48))
	isWrong(t, "[[=a=]-z]", neither, api.ErrRange, 6)
	isWrong(t, `a\`, neither, api.ErrTrail, 1)
	isWrong(t, `\q`, neither, api.ErrEscape, 0)
	isWrong(t, `\}`, neither, api.ErrEscape, 0)
	isRead(t, "a", fold, set(0, 1, 65, 65, 97, 97))
	isRead(t, "[^a]", fold, set(0, 4, 0, 64, 66, 96, 98, 255))
}

// TestPlain: P7.1, each byte that the table does not name is itself, in all modes; a letter with Fold in both cases.
func TestPlain(t *testing.T) {
	for b := range 128 {
		if strings.IndexByte(`\*^$.[`, byte(b)) >= 0 {
			continue
		}
		s := string([]byte{byte(b)})
		isRead(t, s, neither, char(0, 1, b))
		isRead(t, s, chars, char(0, 1, b))
		want := char(0, 1, b)
		switch {
		case 'A' <= b && b <= 'Z':
			want = set(0, 1, b, b, b+32, b+32)
		case 'a' <= b && b <= 'z':
			want = set(0, 1, b-32, b-32, b, b)
		}
		isRead(t, s, fold, want)
		isRead(t, s, both, want)
	}
}

// TestHighBytes: P7.1, without Chars each byte is a character; with Chars one that is none is refused at its place, and characters have all of their bytes, and are not folded.
func TestHighBytes(t *testing.T) {
	for b := 128; b < 256; b++ {
		s := string([]byte{'x', byte(b)})
		isRead(t, s, neither, char(0, 1, 'x'), char(1, 2, b))
		isRead(t, s, fold, set(0, 1, 'X', 'X', 'x', 'x'), char(1, 2, b))
		isWrong(t, s, chars, api.ErrChar, 1)
		isWrong(t, s, both, api.ErrChar, 1)
	}
	at := 0
	var pattern strings.Builder
	var want []api.Token
	for _, c := range []rune{0x7f, 0x80, 0xc0, 0xe9, 0x7ff, 0x800, 0xd7ff, 0xe000, 0xfffd, 0xffff, 0x10000, 0x10ffff, 0x212a} {
		n, _ := pattern.WriteRune(c)
		want = append(want, char(at, at+n, int(c)))
		at += n
	}
	isRead(t, pattern.String(), chars, want...)
	isRead(t, pattern.String(), both, want...)
	isRead(t, "é", neither, char(0, 1, 0xc3), char(1, 2, 0xa9))
}

// TestNoCharacter: P7.1, what is no character with Chars: forms that are cut off, too long, or of no character.
func TestNoCharacter(t *testing.T) {
	for _, s := range []string{"\x80", "\xc3", "\xc3a", "\xc0\x80", "\xc1\xbf", "\xe2\x82", "\xe0\x80\x80", "\xed\xa0\x80", "\xed\xbf\xbf", "\xf0\x80\x80\x80", "\xf4\x90\x80\x80", "\xf8\x88\x80\x80\x80", "\xff"} {
		isWrong(t, s, chars, api.ErrChar, 0)
		isWrong(t, "é*"+s, chars, api.ErrChar, 3)
		isWrong(t, "["+s+"]", chars, api.ErrChar, 1)
		isWrong(t, "x[a"+s, chars, api.ErrChar, 3)
		isWrong(t, "[a-"+s+"]", both, api.ErrChar, 3)
		isWrong(t, `a\`+s, chars, api.ErrEscape, 1)
	}
	// Ahead of it something else shows.
	isWrong(t, "[z-a\xff", chars, api.ErrRange, 1)
	isWrong(t, "[a-c-\xff", chars, api.ErrRange, 4)
	isWrong(t, "a\\{\xff", chars, api.ErrBrace, 1)
	isWrong(t, "\\q\xff", chars, api.ErrEscape, 0)
	isWrong(t, "\xff\\q", chars, api.ErrChar, 0)
}

// TestEscapes: P7.1, each byte behind a backslash.
func TestEscapes(t *testing.T) {
	for b := range 256 {
		s := `a\` + string([]byte{byte(b)})
		for _, mode := range modes() {
			a := char(0, 1, 'a')
			if mode.Fold {
				a = set(0, 1, 'A', 'A', 'a', 'a')
			}
			switch {
			case b == '(':
				isRead(t, s, mode, a, plain(api.TokOpen, 1, 3))
			case b == ')':
				isRead(t, s, mode, a, plain(api.TokClose, 1, 3))
			case b == '|':
				isRead(t, s, mode, a, plain(api.TokAlt, 1, 3))
			case '1' <= b && b <= '9':
				isRead(t, s, mode, a, back(1, b-'0'))
			case b == '+':
				isRead(t, s, mode, a, rep(1, 3, 1, -1))
			case b == '?':
				isRead(t, s, mode, a, rep(1, 3, 0, 1))
			case b == '{':
				isWrong(t, s, mode, api.ErrBrace, 1)
			case strings.IndexByte(`.[]*^$\/`, byte(b)) >= 0:
				isRead(t, s, mode, a, char(1, 3, b))
			default:
				isWrong(t, s, mode, api.ErrEscape, 1)
			}
		}
	}
	isWrong(t, `\é`, chars, api.ErrEscape, 0)
	isWrong(t, `a\é`, neither, api.ErrEscape, 1)
}

// TestTrail: P7.1, a backslash that is the last unit; two of them are one character.
func TestTrail(t *testing.T) {
	for _, mode := range modes() {
		isWrong(t, `\`, mode, api.ErrTrail, 0)
		isRead(t, `\\`, mode, char(0, 2, '\\'))
		isWrong(t, `\\\`, mode, api.ErrTrail, 2)
		isWrong(t, `$\`, mode, api.ErrTrail, 1)
		isWrong(t, `[\]\`, mode, api.ErrTrail, 3)
		isWrong(t, `[\`, mode, api.ErrBracket, 0)
	}
	isWrong(t, `é\`, chars, api.ErrTrail, 2)
}

// TestStar: P7.1, where a * is a character, and where it repeats.
func TestStar(t *testing.T) {
	isRead(t, "*", neither, char(0, 1, '*'))
	isRead(t, "**", neither, char(0, 1, '*'), rep(1, 2, 0, -1))
	isRead(t, "***", neither, char(0, 1, '*'), rep(1, 2, 0, -1), rep(2, 3, 0, -1))
	isRead(t, "^**", neither, plain(api.TokBegin, 0, 1), char(1, 2, '*'), rep(2, 3, 0, -1))
	isRead(t, "^^*", neither, plain(api.TokBegin, 0, 1), char(1, 2, '^'), rep(2, 3, 0, -1))
	isRead(t, `\(^*`, neither, plain(api.TokOpen, 0, 2), plain(api.TokBegin, 2, 3), char(3, 4, '*'))
	isRead(t, `a\|*`, neither, char(0, 1, 'a'), plain(api.TokAlt, 1, 3), char(3, 4, '*'))
	isRead(t, `\)*`, neither, plain(api.TokClose, 0, 2), rep(2, 3, 0, -1))
	isRead(t, `\1*`, neither, back(0, 1), rep(2, 3, 0, -1))
	isRead(t, `\**`, neither, char(0, 2, '*'), rep(2, 3, 0, -1))
	isRead(t, `$*`, neither, char(0, 1, '$'), rep(1, 2, 0, -1))
	isRead(t, `[*]*`, neither, char(0, 3, '*'), rep(3, 4, 0, -1))
	isRead(t, `.*`, neither, set(0, 1, 0, 255), rep(1, 2, 0, -1))
}

// TestBegin: P7.1, where a ^ is the line's beginning.
func TestBegin(t *testing.T) {
	isRead(t, "^", neither, plain(api.TokBegin, 0, 1))
	isRead(t, "^^", neither, plain(api.TokBegin, 0, 1), char(1, 2, '^'))
	isRead(t, `\(^^`, neither, plain(api.TokOpen, 0, 2), plain(api.TokBegin, 2, 3), char(3, 4, '^'))
	isRead(t, `\|^`, neither, plain(api.TokAlt, 0, 2), plain(api.TokBegin, 2, 3))
	isRead(t, `\)^`, neither, plain(api.TokClose, 0, 2), char(2, 3, '^'))
	isRead(t, `*^`, neither, char(0, 1, '*'), char(1, 2, '^'))
	isRead(t, `a*^`, neither, char(0, 1, 'a'), rep(1, 2, 0, -1), char(2, 3, '^'))
	isRead(t, `\^^`, neither, char(0, 2, '^'), char(2, 3, '^'))
	isRead(t, `\1^`, neither, back(0, 1), char(2, 3, '^'))
}

// TestEnd: P7.1, where a $ is the line's end.
func TestEnd(t *testing.T) {
	isRead(t, "$", neither, plain(api.TokEnd, 0, 1))
	isRead(t, "$$", neither, char(0, 1, '$'), plain(api.TokEnd, 1, 2))
	isRead(t, `$\)`, neither, plain(api.TokEnd, 0, 1), plain(api.TokClose, 1, 3))
	isRead(t, `$\|$`, neither, plain(api.TokEnd, 0, 1), plain(api.TokAlt, 1, 3), plain(api.TokEnd, 3, 4))
	isRead(t, `$\(`, neither, char(0, 1, '$'), plain(api.TokOpen, 1, 3))
	isRead(t, `$\\)`, neither, char(0, 1, '$'), char(1, 3, '\\'), char(3, 4, ')'))
	isRead(t, `$)`, neither, char(0, 1, '$'), char(1, 2, ')'))
	isRead(t, `$|`, neither, char(0, 1, '$'), char(1, 2, '|'))
	isRead(t, `\$`, neither, char(0, 2, '$'))
	isRead(t, `$\?`, neither, char(0, 1, '$'), rep(1, 3, 0, 1))
	isRead(t, `^$\)`, neither, plain(api.TokBegin, 0, 1), plain(api.TokEnd, 1, 2), plain(api.TokClose, 2, 4))
}

// TestAny: P7.1, a . is all characters of the mode.
func TestAny(t *testing.T) {
	isRead(t, ".", neither, set(0, 1, 0, 255))
	isRead(t, ".", fold, set(0, 1, 0, 255))
	isRead(t, ".", chars, set(0, 1, 0, 55295, 57344, 1114111))
	isRead(t, ".", both, set(0, 1, 0, 55295, 57344, 1114111))
}

// TestIntervals: P7.1, the three forms, and noughts ahead.
func TestIntervals(t *testing.T) {
	noughts := strings.Repeat("0", 900)
	for _, x := range []struct {
		s           string
		least, most int
	}{
		{`\{0\}`, 0, 0},
		{`\{1\}`, 1, 1},
		{`\{255\}`, 255, 255},
		{`\{0,\}`, 0, -1},
		{`\{255,\}`, 255, -1},
		{`\{0,0\}`, 0, 0},
		{`\{0,1\}`, 0, 1},
		{`\{3,3\}`, 3, 3},
		{`\{9,10\}`, 9, 10},
		{`\{0,255\}`, 0, 255},
		{`\{007,0012\}`, 7, 12},
		{`\{` + noughts + `255,` + noughts + `255\}`, 255, 255},
		{`\{` + noughts + `\}`, 0, 0},
	} {
		for _, mode := range []api.Mode{neither, chars} {
			end := 1 + len(x.s)
			isRead(t, "a"+x.s, mode, char(0, 1, 'a'), rep(1, end, x.least, x.most))
			isRead(t, "a"+x.s+"*", mode, char(0, 1, 'a'), rep(1, end, x.least, x.most), rep(end, end+1, 0, -1))
		}
		isWrong(t, x.s, neither, api.ErrRepeat, 0)
	}
	isRead(t, `a\{1\}\{2\}`, neither, char(0, 1, 'a'), rep(1, 6, 1, 1), rep(6, 11, 2, 2))
}

// TestIntervalsBroken: P7.1, none of the three forms; that is told ahead of a bound that may not be.
func TestIntervalsBroken(t *testing.T) {
	for _, s := range []string{`\{`, `\{\`, `\{\}`, `\{,\}`, `\{,2\}`, `\{2`, `\{2\`, `\{2,`, `\{2,\`, `\{2,3`, `\{2,3\`, `\{2}`, `\{2,3}`, `\{ 2\}`, `\{2 \}`, `\{2, 3\}`, `\{-1\}`, `\{+1\}`, `\{2,,3\}`, `\{2,3,\}`, `\{2,3,4\}`, `\{a\}`, `\{2,a\}`, `\{1a\}`, `\{2;3\}`, `\{2\)`, `\{2,3\{`, `\{0x2\}`, `\{1:\}`, `\{1/\}`, "\\{\u0661\\}", `\{999`, `\{999,1`, `\{3,2`, `\{3,2\`, `\{999\`} {
		for _, mode := range []api.Mode{neither, chars} {
			isWrong(t, "a"+s, mode, api.ErrBrace, 1)
			isWrong(t, "ab"+s+"x", mode, api.ErrBrace, 2)
			isWrong(t, s, mode, api.ErrRepeat, 0)
		}
	}
}

// TestIntervalsBeyond: P7.1, a number above 255, or one below the first; of any number of digits.
func TestIntervalsBeyond(t *testing.T) {
	great := strings.Repeat("9", 900)
	for _, s := range []string{`\{256\}`, `\{256,\}`, `\{0,256\}`, `\{256,256\}`, `\{256,1\}`, `\{1,0\}`, `\{3,2\}`, `\{255,254\}`, `\{10,9\}`, `\{0256\}`, `\{1000\}`, `\{2550\}`, `\{18446744073709551617\}`, `\{0,18446744073709551616\}`, `\{9223372036854775808\}`, `\{4294967297,4294967298\}`, `\{` + great + `\}`, `\{1,` + great + `\}`, `\{` + great + `,1\}`, `\{1` + strings.Repeat("0", 900) + `,\}`} {
		isWrong(t, "a"+s, neither, api.ErrBound, 1)
		isWrong(t, "éa"+s, chars, api.ErrBound, 3)
	}
}

// TestRepeat: P7.1, \+, \? and \{ at a beginning, and elsewhere.
func TestRepeat(t *testing.T) {
	for _, s := range []string{`\+`, `\?`, `\{2\}`, `\{`, `\{256\}`} {
		isWrong(t, s, neither, api.ErrRepeat, 0)
		isWrong(t, `^`+s, neither, api.ErrRepeat, 1)
		isWrong(t, `\(`+s, neither, api.ErrRepeat, 2)
		isWrong(t, `a\|`+s, neither, api.ErrRepeat, 3)
		isWrong(t, `\(^`+s, neither, api.ErrRepeat, 3)
	}
	isRead(t, `*\+`, neither, char(0, 1, '*'), rep(1, 3, 1, -1))
	isRead(t, `$\+`, neither, char(0, 1, '$'), rep(1, 3, 1, -1))
	isRead(t, `\)\+\?`, neither, plain(api.TokClose, 0, 2), rep(2, 4, 1, -1), rep(4, 6, 0, 1))
	isRead(t, `\9\?*`, neither, back(0, 9), rep(2, 4, 0, 1), rep(4, 5, 0, -1))
	isRead(t, `+?{}`, neither, char(0, 1, '+'), char(1, 2, '?'), char(2, 3, '{'), char(3, 4, '}'))
}

// TestLong: P7.1, more than 2000 bytes, whatever they are, are refused at 0.
func TestLong(t *testing.T) {
	for _, mode := range modes() {
		for _, s := range []string{"a", "*", ".", "[", `\`, "\xff", "é"} {
			isWrong(t, strings.Repeat(s, 2001), mode, api.ErrLong, 0)
		}
		l, err := lexer.Lex(strings.Repeat(".", 2000), mode)
		if err != nil || len(l) != 2000 {
			t.Errorf("2000 bytes: %d tokens, %v", len(l), err)
		}
		isWrong(t, strings.Repeat("b", 1999)+`\`, mode, api.ErrTrail, 1999)
		isWrong(t, strings.Repeat("[", 2000), mode, api.ErrBracket, 0)
		isWrong(t, strings.Repeat("b", 1995)+"[[:]]", mode, api.ErrBracket, 1995)
	}
	isWrong(t, strings.Repeat("é", 1001), chars, api.ErrLong, 0)
}

// TestEmpty: P7.2, of the empty pattern no tokens.
func TestEmpty(t *testing.T) {
	for _, mode := range modes() {
		isRead(t, "", mode)
	}
}

// TestFirstShows: P7.1, of several things that are wrong the one that shows first, wherever its place is.
func TestFirstShows(t *testing.T) {
	isWrong(t, `\q\`, neither, api.ErrEscape, 0)
	isWrong(t, `a\{256\}\q`, neither, api.ErrBound, 1)
	isWrong(t, `a\q\{256\}`, neither, api.ErrEscape, 1)
	isWrong(t, `[a\q`, neither, api.ErrBracket, 0)
	isWrong(t, `\(\+[`, neither, api.ErrRepeat, 2)
	isWrong(t, `[b-a][`, neither, api.ErrRange, 1)
	isWrong(t, "é[[:x:]\xff", chars, api.ErrClass, 3)
}

// TestErrorsAreNew: P2, an error is a new one each time: what is done to it does not show in a later one.
func TestErrorsAreNew(t *testing.T) {
	for _, s := range []string{strings.Repeat("a", 2001), `\`, `\q`, `\+`, `a\{`, `a\{256\}`, `[`, `[b-a]`, `[[:x:]]`} {
		_, first := lexer.Lex(s, neither)
		_, second := lexer.Lex(s, neither)
		a, b := first.(*api.Bad), second.(*api.Bad)
		kept := *b
		*a = api.Bad{Code: -1, At: -1}
		if *b != kept {
			t.Errorf("Lex(%q): two errors are one", s)
		}
		isWrong(t, s, neither, kept.Code, kept.At)
	}
}

// TestNewMemory: P3, no two lists of the answers share memory, spare room too.
func TestNewMemory(t *testing.T) {
	pattern := `..aa[a-c][a-c][^x][[:alpha:]][[:alpha:]]\.\.*\1`
	for _, mode := range modes() {
		first, _ := lexer.Lex(pattern, mode)
		second, _ := lexer.Lex(pattern, mode)
		var lists [][]api.Range
		for _, x := range append(slices.Clone(first), second...) {
			lists = append(lists, x.Ranges[:cap(x.Ranges)])
		}
		for i, l := range lists {
			for j := range l {
				l[j] = api.Range{Lo: -1 - i, Hi: -1 - i}
			}
		}
		for i, l := range lists {
			for j := range l {
				if l[j].Lo != -1-i {
					t.Errorf("the list %s shares memory with another one", strconv.Itoa(i))
				}
			}
		}
		spoilt := first[:cap(first)]
		clear(spoilt)
		for i, x := range second {
			if x.Kind == 0 {
				t.Errorf("the token %d went with those of another answer", i)
			}
		}
		again, err := lexer.Lex(pattern, mode)
		if err != nil || len(again) != len(second) || !same(again[0], lexed(t, ".", mode)) {
			t.Errorf("Lex(%q, %v) changed: %v, %v", pattern, mode, again, err)
		}
	}
}

func lexed(t *testing.T, pattern string, mode api.Mode) api.Token {
	t.Helper()
	l, err := lexer.Lex(pattern, mode)
	if err != nil || len(l) != 1 {
		t.Fatalf("Lex(%q, %v): %v, %v", pattern, mode, l, err)
	}
	return l[0]
}
