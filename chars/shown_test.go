package chars_test

import (
	"strings"
	"testing"

	"dredge/api"
	"dredge/chars"
)

// asItIs says of a unit whether it is shown so.
func asItIs(u unit) bool {
	return u.c >= 32 && u.c <= 126 || u.c > 159
}

// shownOf is Shown by the promise's words.
func shownOf(s string) string {
	var b strings.Builder
	for _, u := range unitsOf(s) {
		switch {
		case u.text == `\`:
			b.WriteString(`\\`)
		case u.text == "\n":
			b.WriteString(`\n`)
		case asItIs(u):
			b.WriteString(u.text)
		default:
			for _, x := range []byte(u.text) {
				b.WriteString(`\x`)
				b.WriteByte("0123456789abcdef"[x/16])
				b.WriteByte("0123456789abcdef"[x%16])
			}
		}
	}
	return b.String()
}

func isDigit(b byte) bool {
	return b >= '0' && b <= '9' || b >= 'a' && b <= 'f'
}

func digitOf(b byte) byte {
	if b <= '9' {
		return b - '0'
	}
	return b - 'a' + 10
}

// escapeOf is the escape at the beginning of a text, by the promise's words: what it stands for, and how many bytes it has.
func escapeOf(s string) (byte, int, api.Errno) {
	switch {
	case s == `\` || s == `\x` || len(s) == 3 && s[1] == 'x' && isDigit(s[2]):
		return 0, 0, api.ErrTrail
	case s[1] == '\\':
		return '\\', 2, api.OK
	case s[1] == 'n':
		return '\n', 2, api.OK
	case len(s) > 3 && s[1] == 'x' && isDigit(s[2]) && isDigit(s[3]):
		return digitOf(s[2])*16 + digitOf(s[3]), 4, api.OK
	}
	return 0, 0, api.ErrEscape
}

// readOf is Read by the promise's words.
func readOf(s string) (string, api.Errno, int) {
	var text []byte
	for at := 0; at < len(s); {
		if s[at] == '\\' {
			b, n, e := escapeOf(s[at:])
			if e == api.ErrTrail {
				return "", e, len(s)
			} else if e != api.OK {
				return "", e, at
			}
			text = append(text, b)
			at += n
			continue
		}
		c, n := unitOf(s[at:])
		if !asItIs(unit{at, c, s[at : at+n]}) {
			return "", api.ErrChar, at
		}
		text = append(text, s[at:at+n]...)
		at += n
	}
	shown := shownOf(string(text))
	for i := range min(len(shown), len(s)) {
		if shown[i] != s[i] {
			return "", api.ErrEscape, i
		}
	}
	if len(shown) != len(s) {
		panic("one of the two begins with the other")
	}
	return string(text), api.OK, 0
}

// readHolds holds Read against the promise, and what it told against Shown.
func readHolds(t *testing.T, s string) {
	t.Helper()
	text, e, at := readOf(s)
	gotText, gotE, gotAt := chars.Read(s)
	if gotText != text || gotE != e || gotAt != at {
		t.Errorf("Read(%q): %q, %v, %d, not %q, %v, %d", s, gotText, gotE, gotAt, text, e, at)
	}
	if gotE == api.OK && chars.Shown(gotText) != s {
		t.Errorf("Shown of Read(%q): %q", s, chars.Shown(gotText))
	}
}

// shownHolds holds Shown against the promise, and reads it back.
func shownHolds(t *testing.T, s string) {
	t.Helper()
	want := shownOf(s)
	got := chars.Shown(s)
	if got != want {
		t.Errorf("Shown(%q): %q, not %q", s, got, want)
	}
	if text, e, at := chars.Read(got); text != s || e != api.OK || at != 0 {
		t.Errorf("Read of Shown(%q): %q, %v, %d", s, text, e, at)
	}
	readHolds(t, got)
}

// TestShownOfExamples: P5.4, the chapter's example, and each kind of unit.
func TestShownOfExamples(t *testing.T) {
	for s, want := range map[string]string{
		"":               ``,
		"a\té\xff\\":     `a\x09é\xff\\`,
		"\n\r\x00":       `\n\x0d\x00`,
		" ~\x1f\x7f":     ` ~\x1f\x7f`,
		"\u0080\u009f":   `\xc2\x80\xc2\x9f`,
		"\u00a0€😀\ufffd": "\u00a0€😀\ufffd",
		"\xe2\x82":       `\xe2\x82`,
		"\xed\xa0\x80":   `\xed\xa0\x80`,
		"\xef\xbf\xbd":   "\ufffd",
		"\xef\xbf":       `\xef\xbf`,
		`\x41`:           `\\x41`,
		`\n`:             `\\n`,
	} {
		if got := chars.Shown(s); got != want {
			t.Errorf("Shown(%q): %q, not %q", s, got, want)
		}
		shownHolds(t, s)
	}
}

// TestReadOfExamples: P5.4, the chapter's examples, and each error at its place.
func TestReadOfExamples(t *testing.T) {
	for _, x := range []struct {
		s, text string
		e       api.Errno
		at      int
	}{
		{``, "", api.OK, 0},
		{`a\n`, "a\n", api.OK, 0},
		{`é€\\\xff\x00`, "é€\\\xff\x00", api.OK, 0},
		{"\ufffd", "\ufffd", api.OK, 0},
		{`\xc2\x80`, "\u0080", api.OK, 0},
		{`a\`, "", api.ErrTrail, 2},
		{`a\x`, "", api.ErrTrail, 3},
		{`\x4`, "", api.ErrTrail, 3},
		{`\\\`, "", api.ErrTrail, 3},
		{`\q`, "", api.ErrEscape, 0},
		{`ab\N`, "", api.ErrEscape, 2},
		{`\xg`, "", api.ErrEscape, 0},
		{`\x4g`, "", api.ErrEscape, 0},
		{`\x4\`, "", api.ErrEscape, 0},
		{`a\xFF`, "", api.ErrEscape, 1},
		{`a\é`, "", api.ErrEscape, 1},
		{"a\\\xff", "", api.ErrEscape, 1},
		{"\\x\xff", "", api.ErrEscape, 0},
		{"\\x\xef\xbf\xbd", "", api.ErrEscape, 0},
		{"a\xff\\", "", api.ErrChar, 1},
		{"é\t", "", api.ErrChar, 2},
		{"\n", "", api.ErrChar, 0},
		{"a\x7f", "", api.ErrChar, 1},
		{"a\u0080", "", api.ErrChar, 1},
		{"a\u009f", "", api.ErrChar, 1},
		{`\x41`, "", api.ErrEscape, 0},
		{`ab\x5c`, "", api.ErrEscape, 3},
		{`\x0a`, "", api.ErrEscape, 1},
		{`\xc3\xa9`, "", api.ErrEscape, 0},
		{`\xff\xe2\x82\xac`, "", api.ErrEscape, 4},
		{`\x41\`, "", api.ErrTrail, 5},
		{"\\x41\n", "", api.ErrChar, 4},
		{`\x41\q`, "", api.ErrEscape, 4},
	} {
		if text, e, at := chars.Read(x.s); text != x.text || e != x.e || at != x.at {
			t.Errorf("Read(%q): %q, %v, %d, not %q, %v, %d", x.s, text, e, at, x.text, x.e, x.at)
		}
		readHolds(t, x.s)
	}
}

// TestShownOfEveryCharacter: P5.4, P5.6, each character, and each pair of bytes.
func TestShownOfEveryCharacter(t *testing.T) {
	for c := range 0x3000 {
		if s := bytesOf(c); s != "" {
			shownHolds(t, s)
			readHolds(t, s)
		}
	}
	for _, c := range edges() {
		shownHolds(t, "a"+bytesOf(c)+"\xc3"+bytesOf(c))
		readHolds(t, "a"+bytesOf(c))
	}
	for i := range 256 * 256 {
		shownHolds(t, string([]byte{byte(i / 256), byte(i % 256)}))
	}
}

// TestReadOfEscapes: P5.4, each byte as an escape and behind a backslash, an x and a digit.
func TestReadOfEscapes(t *testing.T) {
	const digits = "0123456789abcdef"
	for b := range 256 {
		escape := `\x` + digits[b/16:b/16+1] + digits[b%16:b%16+1]
		readHolds(t, "é"+escape+"a")
		one := string([]byte{byte(b)})
		for _, head := range []string{`\`, `\x`, `\x4`, `\xc`, `a\`, `\\`} {
			readHolds(t, head+one)
			readHolds(t, head+one+"0")
			readHolds(t, head+one+`\`)
		}
	}
}

// TestReadOfAllTexts: P5.4, P5.6, all short texts of what an escape is made of, and texts of whole escapes.
func TestReadOfAllTexts(t *testing.T) {
	for length := range 7 {
		for _, s := range texts([]string{`\`, "x", "n", "4", "c", "G", "é"}, length) {
			readHolds(t, s)
		}
	}
	for length := range 5 {
		for _, s := range texts([]string{`\xe2`, `\x82`, `\xac`, `\xc3`, `\xa9`, `\xed`, `\n`, `\\`, "é", "€", "a", `\x41`, `\`, "\xff"}, length) {
			readHolds(t, s)
			shownHolds(t, s)
		}
	}
}
