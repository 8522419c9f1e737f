package chars

import (
	"strings"
	"unicode/utf8"

	"dredge/api"
)

const digits = "0123456789abcdef"

// Shown is a text as it is told.
func Shown(s string) string {
	var shown []byte
	for at, r := range s {
		switch {
		case r == '\\':
			shown = append(shown, '\\', '\\')
		case r == '\n':
			shown = append(shown, '\\', 'n')
		case isPlain(r) && !broken(s, at, r):
			shown = utf8.AppendRune(shown, r)
		default:
			_, n := Next(s, at)
			shown = addEscapes(shown, s[at:at+n])
		}
	}
	return string(shown)
}

// isPlain says of a character whether it is shown as it is (but the backslash).
func isPlain(r rune) bool {
	return r >= 32 && r <= 126 || r > 159
}

func addEscapes(shown []byte, unit string) []byte {
	for _, b := range []byte(unit) {
		shown = append(shown, '\\', 'x', digits[b>>4], digits[b&15])
	}
	return shown
}

// What a reader has behind it, of the escape that it is in.
const (
	outside = iota
	behindBackslash
	behindX
	behindDigit
)

// reader reads what is shown, a unit at a time.
type reader struct {
	text  []byte
	state int
	begin int // where the escape began
	high  int // its first digit
}

// Read is the text that is shown so; else an error, and its place.
func Read(s string) (string, api.Errno, int) {
	var x reader
	for at, r := range s {
		if e, place := x.take(s, at, r); e != api.OK {
			return "", e, place
		}
	}
	if x.state != outside {
		return "", api.ErrTrail, len(s)
	}
	text := string(x.text)
	// There is one form of each text alone: what could have been told by less is refused.
	if shown := Shown(text); shown != s {
		return "", api.ErrEscape, firstDifference(shown, s)
	}
	return text, api.OK, 0
}

// take takes the unit at a place; an error has its place beside it.
func (x *reader) take(s string, at int, r rune) (api.Errno, int) {
	if x.state != outside {
		if !x.takeEscape(r) {
			return api.ErrEscape, x.begin
		}
		return api.OK, 0
	}
	if !isPlain(r) || broken(s, at, r) {
		return api.ErrChar, at
	}
	if r == '\\' {
		x.state, x.begin = behindBackslash, at
		return api.OK, 0
	}
	x.text = utf8.AppendRune(x.text, r)
	return api.OK, 0
}

// takeEscape takes the next unit of an escape, and says whether it may stand there.
func (x *reader) takeEscape(r rune) bool {
	if x.state == behindBackslash {
		return x.takeKind(r)
	}
	digit := strings.IndexRune(digits, r)
	if digit < 0 {
		return false
	}
	if x.state == behindX {
		x.state, x.high = behindDigit, digit
		return true
	}
	x.end(byte(x.high<<4 | digit))
	return true
}

// takeKind takes what stands right behind the backslash.
func (x *reader) takeKind(r rune) bool {
	switch r {
	case '\\':
		x.end('\\')
	case 'n':
		x.end('\n')
	case 'x':
		x.state = behindX
	default:
		return false
	}
	return true
}

// end ends an escape, which stands for b.
func (x *reader) end(b byte) {
	x.text = append(x.text, b)
	x.state = outside
}

// firstDifference is the first place at which two texts differ.
func firstDifference(a, b string) int {
	i := 0
	for i < min(len(a), len(b)) && a[i] == b[i] {
		i++
	}
	return i
}
