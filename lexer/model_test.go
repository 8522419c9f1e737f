package lexer_test

import (
	"math/big"
	"regexp"
	"slices"
	"strings"
	"testing"

	"dredge/api"
	"dredge/classes"
	"dredge/lexer"
)

// The model: what is left of a pattern is held against the chapter's forms, one by one; a bracket's items are told apart by what stood ahead of each.

// model is a mode, and what stands ahead of what is left.
type model struct {
	mode  api.Mode
	at    int // how many bytes
	ahead int // the token's kind, 0: none
}

var (
	simple   = regexp.MustCompile(`^\\[()|1-9]`)
	literal  = regexp.MustCompile(`^\\[.[\]*^$\\/]`)
	repeats  = regexp.MustCompile(`^\\[+?{]`)
	interval = regexp.MustCompile(`^\\\{([0-9]+)(,([0-9]*))?\\\}`)
	atEnd    = regexp.MustCompile(`^\$(\\[)|]|$)`)
	named    = regexp.MustCompile(`^\[:((?s:.*?)):\]`)
	same1    = regexp.MustCompile(`^\[=((?s:.+?))=\]`)
	element  = regexp.MustCompile(`^\[\.((?s:.+?))\.\]`)
	special  = regexp.MustCompile(`^\[[:=.]`)
	noEnd    = regexp.MustCompile(`^\[[:=]`)
	dash     = regexp.MustCompile(`^-[^\]]`)
)

func bad(code api.Errno, at int) *api.Bad {
	return &api.Bad{Code: code, At: at}
}

// next is the first token of what is left, and how many bytes it has.
func (m model) next(left string) (api.Token, int, *api.Bad) {
	beginning := slices.Contains([]int{0, api.TokOpen, api.TokAlt, api.TokBegin}, m.ahead)
	switch {
	case simple.MatchString(left):
		n := strings.IndexByte("()|123456789", left[1])
		if n < 3 {
			return api.Token{Kind: []int{api.TokOpen, api.TokClose, api.TokAlt}[n]}, 2, nil
		}
		return api.Token{Kind: api.TokBack, N: n - 2}, 2, nil
	case literal.MatchString(left):
		return m.set([]api.Range{{Lo: int(left[1]), Hi: int(left[1])}}, false), 2, nil
	case repeats.MatchString(left) && beginning:
		return api.Token{}, 0, bad(api.ErrRepeat, m.at)
	case repeats.MatchString(left):
		return m.repeat(left)
	case left == `\`:
		return api.Token{}, 0, bad(api.ErrTrail, m.at)
	case left[0] == '\\':
		return api.Token{}, 0, bad(api.ErrEscape, m.at)
	case left[0] == '*' && !beginning:
		return api.Token{Kind: api.TokRep, Max: -1}, 1, nil
	case left[0] == '^' && (m.at == 0 || m.ahead == api.TokOpen || m.ahead == api.TokAlt):
		return api.Token{Kind: api.TokBegin}, 1, nil
	case atEnd.MatchString(left):
		return api.Token{Kind: api.TokEnd}, 1, nil
	case left[0] == '.':
		return m.set(nil, true), 1, nil
	case left[0] == '[':
		return m.brackets(left)
	}
	c, n := m.unit(left)
	if c < 0 {
		return api.Token{}, 0, bad(api.ErrChar, m.at)
	}
	return m.set([]api.Range{{Lo: c, Hi: c}}, false), n, nil
}

func (m model) repeat(left string) (api.Token, int, *api.Bad) {
	switch left[1] {
	case '+':
		return api.Token{Kind: api.TokRep, Min: 1, Max: -1}, 2, nil
	case '?':
		return api.Token{Kind: api.TokRep, Max: 1}, 2, nil
	}
	parts := interval.FindStringSubmatch(left)
	if parts == nil {
		return api.Token{}, 0, bad(api.ErrBrace, m.at)
	}
	if parts[2] == "" {
		parts[3] = parts[1]
	}
	top := big.NewInt(255)
	least, _ := new(big.Int).SetString(parts[1], 10)
	most, ok := new(big.Int).SetString(parts[3], 10)
	if least.Cmp(top) > 0 || ok && (most.Cmp(top) > 0 || most.Cmp(least) < 0) {
		return api.Token{}, 0, bad(api.ErrBound, m.at)
	}
	t := api.Token{Kind: api.TokRep, Min: int(least.Int64()), Max: -1}
	if ok {
		t.Max = int(most.Int64())
	}
	return t, len(parts[0]), nil
}

// unit is the first unit (-1: no character), and its bytes: with Chars those that are one rune's just as it is written.
func (m model) unit(left string) (int, int) {
	if !m.mode.Chars {
		return int(left[0]), 1
	}
	for n := 1; n <= min(4, len(left)); n++ {
		if l := []rune(left[:n]); len(l) == 1 && string(l) == left[:n] {
			return int(l[0]), n
		}
	}
	return -1, 1
}

// set has a character, if that or (with Fold) its letter's other case is in l.
func (m model) set(l []api.Range, turned bool) api.Token {
	has := func(c int) bool {
		if m.mode.Fold && c < 128 && 'a' <= c|32 && c|32 <= 'z' && in(l, c^32) {
			return true
		}
		return in(l, c)
	}
	// Between two of these nothing changes.
	cuts := []int{0, 256, 55296, 57344, 1114112, 65, 91, 97, 123}
	for _, r := range l {
		cuts = append(cuts, r.Lo, r.Hi+1, r.Lo^32, (r.Hi^32)+1)
	}
	slices.Sort(cuts)
	cuts = slices.Compact(cuts)
	t := api.Token{Kind: api.TokSet}
	for i, lo := range cuts[:len(cuts)-1] {
		character := lo < 256 || m.mode.Chars && lo < 1114112 && (lo < 55296 || lo >= 57344)
		if !character || has(lo) == turned {
			continue
		}
		if k := len(t.Ranges); k > 0 && t.Ranges[k-1].Hi == lo-1 {
			t.Ranges[k-1].Hi = cuts[i+1] - 1
		} else {
			t.Ranges = append(t.Ranges, api.Range{Lo: lo, Hi: cuts[i+1] - 1})
		}
	}
	return t
}

func in(l []api.Range, c int) bool {
	return slices.ContainsFunc(l, func(r api.Range) bool { return r.Lo <= c && c <= r.Hi })
}

// What stands ahead of an item.
const (
	nothing  = iota
	anEnd    // that is no range's second one
	another  // a range, an item [: or [=
	halfOnly // a range's first END and its -
)

func (m model) brackets(left string) (api.Token, int, *api.Bad) {
	none := api.Token{}
	n := len(regexp.MustCompile(`^\[\^?`).FindString(left))
	turned := n == 2
	var l []api.Range
	var first api.Range // a range's first END: Lo its place, Hi its character
	for state := nothing; ; {
		rest, at := left[n:], m.at+n
		c, size, isEnd := -1, 0, true
		switch {
		case rest == "" || rest == "-" && state != nothing && state != halfOnly:
			return none, 0, bad(api.ErrBracket, m.at)
		case rest[0] == ']' && state != nothing:
			return m.set(l, turned), n + 1, nil
		case noEnd.MatchString(rest) && state == halfOnly:
			return none, 0, bad(api.ErrRange, first.Lo)
		case dash.MatchString(rest) && state == another:
			return none, 0, bad(api.ErrRange, at)
		case dash.MatchString(rest) && state == anEnd:
			n++
			state = halfOnly
			continue
		case special.MatchString(rest):
			var ranges []api.Range
			var e *api.Bad
			ranges, c, size, e = m.item(rest, at)
			if e != nil {
				return none, 0, e
			}
			l = append(l, ranges...)
			isEnd = rest[1] == '.'
		default:
			if c, size = m.unit(rest); c < 0 {
				return none, 0, bad(api.ErrChar, at)
			}
		}
		n += size
		switch {
		case state == halfOnly && c < first.Hi:
			return none, 0, bad(api.ErrRange, first.Lo)
		case state == halfOnly:
			l = append(l, api.Range{Lo: first.Hi, Hi: c})
			state = another
		case isEnd:
			l = append(l, api.Range{Lo: c, Hi: c})
			first = api.Range{Lo: at, Hi: c}
			state = anEnd
		default:
			state = another
		}
	}
}

// item is an item [: or [= or [. : its ranges, or its character as an END; and its bytes. m.at is where the brackets begin.
func (m model) item(rest string, at int) ([]api.Range, int, int, *api.Bad) {
	parts := map[byte]*regexp.Regexp{':': named, '=': same1, '.': element}[rest[1]].FindStringSubmatch(rest)
	if parts == nil {
		return nil, 0, 0, bad(api.ErrBracket, m.at)
	}
	if rest[1] == ':' {
		l, ok := classes.Named(parts[1])
		if !ok {
			return nil, 0, 0, bad(api.ErrClass, at)
		}
		return l, -1, len(parts[0]), nil
	}
	c, size := m.unit(parts[1])
	if c < 0 || size != len(parts[1]) {
		return nil, 0, 0, bad(api.ErrClass, at)
	}
	if rest[1] == '=' {
		return []api.Range{{Lo: c, Hi: c}}, -1, len(parts[0]), nil
	}
	return nil, c, len(parts[0]), nil
}

func modelLex(pattern string, mode api.Mode) ([]api.Token, *api.Bad) {
	if len(pattern) > 2000 {
		return nil, bad(api.ErrLong, 0)
	}
	m := model{mode: mode}
	var l []api.Token
	for m.at < len(pattern) {
		t, n, e := m.next(pattern[m.at:])
		if e != nil {
			return nil, e
		}
		t.At, t.End = m.at, m.at+n
		m.at, m.ahead = t.End, t.Kind
		l = append(l, t)
	}
	return l, nil
}

// standsTogether: P7.2, the tokens stand one behind the other, from 0 to the pattern's length; and each has only the fields of its kind.
func standsTogether(pattern string, l []api.Token) bool {
	at := 0
	for _, x := range l {
		if x.At != at || x.End <= at {
			return false
		}
		at = x.End
		if x.Kind != api.TokBack && x.N != 0 || x.Kind != api.TokRep && (x.Min != 0 || x.Max != 0) || x.Kind != api.TokSet && len(x.Ranges) != 0 {
			return false
		}
	}
	return at == len(pattern)
}

// asModel holds Lex against the model.
func asModel(t *testing.T, pattern string, mode api.Mode) {
	t.Helper()
	want, e := modelLex(pattern, mode)
	got, err := lexer.Lex(pattern, mode)
	if e != nil {
		if x, ok := err.(*api.Bad); !ok || *x != *e || len(got) != 0 {
			t.Fatalf("Lex(%q, %v): %v, %v; not %v", pattern, mode, got, err, e)
		}
		return
	}
	if err != nil || !slices.EqualFunc(got, want, same) || !standsTogether(pattern, got) {
		t.Fatalf("Lex(%q, %v): %v, %v; not %v", pattern, mode, got, err, want)
	}
}

// rows tells all rows of up to so many pieces, one behind the other.
func rows(pieces []string, most int, tell func(string)) {
	var from func(s string, left int)
	from = func(s string, left int) {
		tell(s)
		if left == 0 {
			return
		}
		for _, p := range pieces {
			from(s+p, left-1)
		}
	}
	from("", most)
}

// TestAllShort: P7.1 and P7.2, all short rows of what the table speaks of.
func TestAllShort(t *testing.T) {
	rows([]string{`\`, "(", "|", ")", "*", "^", "$", "a", "[", "]", "{", "1", "}", ",", "\xc3", "\xa9"}, 4, func(s string) {
		asModel(t, s, neither)
		asModel(t, s, both)
	})
}

// TestAllTokens: P7.1 and P7.2, all short rows of tokens, one behind the other.
func TestAllTokens(t *testing.T) {
	rows([]string{`\(`, `\)`, `\|`, `\2`, "*", "^", "$", `\+`, `\{1,2\}`, "Z", "é", ".", "[^b]"}, 4, func(s string) {
		asModel(t, s, fold)
		asModel(t, s, chars)
	})
}

// TestAllBrackets: P7.1, all short rows of what brackets have in them.
func TestAllBrackets(t *testing.T) {
	rows([]string{"a", "-", "]", "[", "^", ".", "=", ":", "\xff"}, 5, func(s string) {
		asModel(t, "["+s, neither)
		asModel(t, "["+s+"]", both)
	})
}

// TestAllItems: P7.1, all short rows of items, whole and not.
func TestAllItems(t *testing.T) {
	rows([]string{"a", "b", "-", "]", "[.b.]", "[=b=]", "[:digit:]", "[.bb.]", "[:x:]", "[=", "é", "\xff"}, 4, func(s string) {
		asModel(t, "["+s, fold)
		asModel(t, "x[^"+s+"]", chars)
	})
}

// TestAllIntervals: P7.1, all short rows of what intervals have in them.
func TestAllIntervals(t *testing.T) {
	rows([]string{"0", "2", "55", ",", `\`, "}", `\}`, "a"}, 5, func(s string) {
		asModel(t, `a\{`+s, neither)
		asModel(t, `a\{`+s+`\}`, chars)
	})
}

// TestLongRows: P7.1 and P7.2, long rows of all of these, and of any bytes.
func TestLongRows(t *testing.T) {
	pieces := []string{`\(`, `\)`, `\|`, `\1`, `\9`, "*", "^", "$", `\+`, `\?`, `\{3\}`, `\{0,255\}`, `\{7,\}`, "a", "Q", "é", "€", ".", `\.`, `\/`, "[a-f]", "[^]-a]", "[[:upper:]x]", "[[.-.]-9-]", "[[=k=]é-€]", "]", "-", "\n", "\x00"}
	wrongs := []string{`\`, "[", `\q`, `\{300\}`, "[b-a]", "\xff", "[[:no:]]"}
	seed := uint32(7)
	random := func(n int) int {
		seed = seed*1664525 + 1013904223
		return int(seed>>8) % n
	}
	for range 1000 {
		var s strings.Builder
		for range random(60) {
			s.WriteString(pieces[random(len(pieces))])
			if random(200) == 0 {
				s.WriteString(wrongs[random(len(wrongs))])
			}
		}
		for _, mode := range modes() {
			asModel(t, s.String(), mode)
		}
	}
	for range 1000 {
		l := make([]byte, random(2010))
		for i := range l {
			l[i] = byte(random(256))
		}
		for _, mode := range modes() {
			asModel(t, string(l), mode)
		}
	}
}
