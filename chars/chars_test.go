package chars_test

import (
	"math"
	"slices"
	"strings"
	"testing"

	"dredge/api"
	"dredge/chars"
)

const last = 0x10ffff

// bytesOf is a character's UTF-8 bytes by the chapter's own words; nothing, if it is no character.
func bytesOf(c int) string {
	tail := func(shift int) byte { return byte(0x80 | c>>shift&0x3f) }
	switch {
	case c < 0 || c > 1114111 || c >= 55296 && c <= 57343:
		return ""
	case c <= 127:
		return string([]byte{byte(c)})
	case c <= 2047:
		return string([]byte{byte(0xc0 | c>>6), tail(0)})
	case c <= 65535:
		return string([]byte{byte(0xe0 | c>>12), tail(6), tail(0)})
	}
	return string([]byte{byte(0xf0 | c>>18), tail(12), tail(6), tail(0)})
}

// unitOf is the unit at the beginning of a text, which is not empty: what a leading byte and those behind it could spell is held against bytesOf.
func unitOf(s string) (int, int) {
	for n, mask := range []int{0x7f, 0x1f, 0x0f, 0x07} {
		if n >= len(s) {
			break
		}
		c := int(s[0]) & mask
		for _, b := range []byte(s[1 : n+1]) {
			c = c<<6 | int(b)&0x3f
		}
		if bytesOf(c) == s[:n+1] {
			return c, n + 1
		}
	}
	return -1, 1
}

// unit is a unit of a text: where it begins, its character (-1: none), and its bytes.
type unit struct {
	at, c int
	text  string
}

func unitsOf(s string) []unit {
	var l []unit
	for at := 0; at < len(s); {
		c, n := unitOf(s[at:])
		l = append(l, unit{at, c, s[at : at+n]})
		at += n
	}
	return l
}

// unitsHold asks by every call about units.
func unitsHold(t *testing.T, s string) {
	t.Helper()
	units := unitsOf(s)
	valid, places, characters := len(s), []int{}, []int{}
	for _, u := range units {
		places = append(places, u.at)
		characters = append(characters, u.c)
		if u.c < 0 {
			valid = min(valid, u.at)
		}
	}
	places = append(places, len(s))
	if got := chars.Valid(s); got != valid {
		t.Errorf("Valid(%q): %d, not %d", s, got, valid)
	}
	if got := chars.Places(s); !slices.Equal(got, places) {
		t.Errorf("Places(%q): %v, not %v", s, got, places)
	}
	nextHolds(t, s)
	decodeHolds(t, s, characters, valid == len(s))
	columnHolds(t, s, units)
}

func nextHolds(t *testing.T, s string) {
	t.Helper()
	for at := -2; at <= len(s)+2; at++ {
		c, n := 0, 0
		if at >= 0 && at < len(s) {
			c, n = unitOf(s[at:])
		}
		if gotC, gotN := chars.Next(s, at); gotC != c || gotN != n {
			t.Errorf("Next(%q, %d): %d, %d, not %d, %d", s, at, gotC, gotN, c, n)
		}
	}
}

func decodeHolds(t *testing.T, s string, characters []int, all bool) {
	t.Helper()
	got, e := chars.Decode(s)
	if !all {
		if e != api.ErrChar || len(got) != 0 {
			t.Errorf("Decode(%q): %v, %v, not ErrChar", s, got, e)
		}
		return
	}
	if e != api.OK || !slices.Equal(got, characters) {
		t.Errorf("Decode(%q): %v, %v, not %v", s, got, e, characters)
	}
	if back, e := chars.Encode(got); e != api.OK || back != s {
		t.Errorf("Encode of Decode(%q): %q, %v", s, back, e)
	}
}

func columnHolds(t *testing.T, s string, units []unit) {
	t.Helper()
	places := []int{math.MinInt, math.MaxInt}
	for at := -2; at <= len(s)+2; at++ {
		places = append(places, at)
	}
	for _, at := range places {
		want := 0
		for _, u := range units {
			if u.at < at {
				want++
			}
		}
		if got := chars.Column(s, at); got != want {
			t.Errorf("Column(%q, %d): %d, not %d", s, at, got, want)
		}
	}
}

// edges are characters at which something begins or ends: a length of the bytes, a value of a byte, what is no character, what is shown as it is.
func edges() []int {
	l := []int{0, 9, 10, 13, 31, 32, 65, 92, 97, 126, 127, 128, 159, 160, 191, 192, 255, 2047, 2048, 4095, 4096, 8364, 0x4e00, 53247, 53248, 55295, 57344, 61440, 65279, 65532, 65533, 65534, 65535, 65536, 131071, 131072, 262143, 262144, 1048575, 1048576, last - 1, last}
	for i := 6; i < 21; i++ {
		l = append(l, 1<<i-1, 1<<i, 1<<i+1)
	}
	return l
}

// rows are as many numbers as asked for, from below most, the same ones each time.
func rows(count, most int) []int {
	l := make([]int, count)
	x := uint64(88172645463325252)
	for i := range l {
		x = x*6364136223846793005 + 1442695040888963407
		l[i] = int(x>>33) % most
	}
	return l
}

// texts are all texts of so many parts.
func texts(parts []string, length int) []string {
	l := []string{""}
	for range length {
		var longer []string
		for _, s := range l {
			for _, p := range parts {
				longer = append(longer, s+p)
			}
		}
		l = longer
	}
	return l
}

// TestUnitsOfExamples: P5.1, P5.2, P5.5, the chapter's examples and the edges that it names.
func TestUnitsOfExamples(t *testing.T) {
	for _, s := range []string{
		"", "a", "aé", "aéb", "a\xe2\x82b", "a\xc3", "€", "\ufffd", "a\ufffdb", "\xef\xbf", "\xef\xbf\xbd\xbd", "\ufffd\xff\ufffd",
		"\xed\xa0\x80", "\xed\xbf\xbf", "\xed\x9f\xbf", "\xee\x80\x80", // ahead of, within and behind what is no character
		"\xc0\x80", "\xc1\xbf", "\xe0\x80\x80", "\xe0\x9f\xbf", "\xf0\x80\x80\x80", "\xf0\x8f\xbf\xbf", // longer forms
		"\xf4\x8f\xbf\xbf", "\xf4\x90\x80\x80", "\xf5\x80\x80\x80", "\xf8\x88\x80\x80\x80", "\xff", "\xfe", // above the greatest one
		"\xf0\x9f\x98\x80", "\xf0\x9f\x98", "\xf0\x9f\x98a", "\x80\x80", "\x00\x00",
	} {
		unitsHold(t, s)
	}
	if c, n := chars.Next("aé", 1); c != 233 || n != 2 {
		t.Error("Next of aé at 1:", c, n)
	}
	if c, n := chars.Next("aé", 2); c != -1 || n != 1 {
		t.Error("Next of aé at 2:", c, n)
	}
	if l := chars.Places("a\xe2\x82b"); !slices.Equal(l, []int{0, 1, 2, 3, 4}) {
		t.Error("Places of 61 E2 82 62:", l)
	}
	if a, b := chars.Valid("aé"), chars.Valid("a\xc3"); a != 3 || b != 1 {
		t.Error("Valid:", a, b)
	}
	if a, b, c := chars.Column("aéb", 3), chars.Column("aéb", 2), chars.Column("aéb", 99); a != 2 || b != 2 || c != 3 {
		t.Error("Column of aéb:", a, b, c)
	}
}

// TestUnitsOfManyBytes: P5.1, P5.2, P5.5, P5.6, all texts of one and two bytes, and of more bytes of those at which a form begins or ends.
func TestUnitsOfManyBytes(t *testing.T) {
	var all, some []string
	for b := range 256 {
		all = append(all, string([]byte{byte(b)}))
	}
	for _, b := range []byte("a\x7f\x80\x8f\x90\x9f\xa0\xbf\xc1\xc2\xdf\xe0\xec\xed\xee\xef\xf0\xf3\xf4\xf5\xff") {
		some = append(some, string([]byte{b}))
	}
	for _, s := range slices.Concat(texts(all, 1), texts(all, 2), texts(some, 3)) {
		unitsHold(t, s)
	}
	for i, n := range rows(60000, len(some)*len(some)*len(some)*len(some)) {
		var s strings.Builder
		for range 3 + i%6 {
			s.WriteString(some[n%len(some)])
			n = n/len(some) + i
		}
		unitsHold(t, s.String())
	}
}

// TestNextFarOff: P5.1, places that no text has.
func TestNextFarOff(t *testing.T) {
	for _, at := range []int{math.MinInt, -1, 3, math.MaxInt} {
		if c, n := chars.Next("aé", at); c != 0 || n != 0 {
			t.Errorf("Next at %d: %d, %d", at, c, n)
		}
	}
	if c, n := chars.Next("", 0); c != 0 || n != 0 {
		t.Error("Next of nothing:", c, n)
	}
}

// TestEveryCharacter: P5.1, P5.2, P5.6, each number alone, and between others.
func TestEveryCharacter(t *testing.T) {
	for c := -300; c <= last+300; c++ {
		want := bytesOf(c)
		got, e := chars.Encode([]int{c})
		if want == "" {
			if got != "" || e != api.ErrChar {
				t.Fatalf("Encode of %d, which is no character: %q, %v", c, got, e)
			}
			continue
		}
		if got != want || e != api.OK {
			t.Fatalf("Encode of %d: %x, %v, not %x", c, got, e, want)
		}
		if l, e := chars.Decode(got); e != api.OK || len(l) != 1 || l[0] != c {
			t.Fatalf("Decode of Encode of %d: %v, %v", c, l, e)
		}
		if r, n := chars.Next(got, 0); r != c || n != len(got) {
			t.Fatalf("Next of %d: %d, %d", c, r, n)
		}
	}
}

// TestEncodeRows: P5.2, P5.6, several characters; wrong ones, wherever they stand, also those whose lower half is a character.
func TestEncodeRows(t *testing.T) {
	for _, empty := range [][]int{nil, {}} {
		if s, e := chars.Encode(empty); s != "" || e != api.OK {
			t.Errorf("Encode of nothing: %q, %v", s, e)
		}
	}
	l := edges()
	var want strings.Builder
	for _, c := range l {
		want.WriteString(bytesOf(c))
	}
	given := slices.Clone(l)
	s, e := chars.Encode(given)
	if s != want.String() || e != api.OK {
		t.Errorf("Encode of the edges: %q, %v", s, e)
	}
	if !slices.Equal(given, l) {
		t.Error("Encode wrote into what it was given")
	}
	if back, e := chars.Decode(s); e != api.OK || !slices.Equal(back, l) {
		t.Errorf("Decode of Encode of the edges: %v, %v", back, e)
	}
	for _, wrong := range []int{math.MinInt, -1 << 32, -1<<32 + 97, -1, 55296, 56000, 57343, last + 1, 1 << 32, 1<<32 + 97, math.MaxInt} {
		for i := range 3 {
			l := []int{97, 233, 8364}
			l[i] = wrong
			if s, e := chars.Encode(l); s != "" || e != api.ErrChar {
				t.Errorf("Encode of %v: %q, %v", l, s, e)
			}
		}
	}
}

// TestUnitsMeetNoNeighbour: P5.6, the units' bytes are the text, and behind a character the units are those of what is behind it alone.
func TestUnitsMeetNoNeighbour(t *testing.T) {
	tails := []string{"", "a", "\x80", "\xbf\xbf", "\xe2\x82", "é", "\xa9\xc3", "\ufffd"}
	for _, c := range edges() {
		for _, tail := range tails {
			head := bytesOf(c)
			s := head + tail
			places := chars.Places(s)
			var joined strings.Builder
			for i, at := range places[:len(places)-1] {
				_, n := chars.Next(s, at)
				joined.WriteString(s[at : at+n])
				if at+n != places[i+1] {
					t.Errorf("%q: the unit at %d has %d bytes, the next place is %d", s, at, n, places[i+1])
				}
			}
			if joined.String() != s {
				t.Errorf("%q: the units' bytes are %q", s, joined.String())
			}
			for i, at := range chars.Places(tail) {
				if places[i+1] != at+len(head) {
					t.Errorf("%q: the places %v do not go on with those of %q", s, places, tail)
				}
			}
		}
	}
}

// TestUnitsNewMemory: P5.1, P5.2, what one call answered is not what the next one answers.
func TestUnitsNewMemory(t *testing.T) {
	first := chars.Places("aéb")
	clear(first[:cap(first)])
	if l := chars.Places("aéb"); !slices.Equal(l, []int{0, 1, 3, 4}) {
		t.Error("Places:", l)
	}
	l, _ := chars.Decode("aé")
	clear(l[:cap(l)])
	if l, _ := chars.Decode("aé"); !slices.Equal(l, []int{97, 233}) {
		t.Error("Decode:", l)
	}
}
