package show_test

import (
	"math"
	"slices"
	"strings"
	"testing"

	"dredge/api"
	"dredge/classes"
	"dredge/parse"
	"dredge/show"
)

var (
	neither = api.Mode{}
	chars   = api.Mode{Chars: true}
	fold    = api.Mode{Fold: true}
	both    = api.Mode{Chars: true, Fold: true}
)

func modes() []api.Mode {
	return []api.Mode{neither, chars, fold, both}
}

// ranges is a list of ranges, each by its two bounds.
func ranges(bounds ...int) []api.Range {
	var l []api.Range
	for i := 0; i < len(bounds); i += 2 {
		l = append(l, api.Range{Lo: bounds[i], Hi: bounds[i+1]})
	}
	return l
}

// isClass: Class tells this text.
func isClass(t *testing.T, l []api.Range, mode api.Mode, want string) {
	t.Helper()
	if s, e := show.Class(l, mode); s != want || e != api.OK {
		t.Errorf("Class(%.200v, %v): %.200q, %v; not %.200q", l, mode, s, e, want)
	}
}

// isNoClass: Class tells that, and nothing beside it.
func isNoClass(t *testing.T, l []api.Range, mode api.Mode) {
	t.Helper()
	if s, e := show.Class(l, mode); s != "" || e != api.ErrTree {
		t.Errorf("Class(%v, %v): %q, %v", l, mode, s, e)
	}
}

// TestClassExamples: the chapter's.
func TestClassExamples(t *testing.T) {
	isClass(t, ranges(97, 97), neither, "a")
	isClass(t, ranges(42, 42), neither, `\*`)
	isClass(t, ranges(97, 99), neither, "[a-c]")
	isClass(t, ranges(93, 94), neither, "[[.].]-[.^.]]")
	isClass(t, ranges(65, 65, 97, 97), neither, "[Aa]")
	isClass(t, ranges(0, 255), neither, ".")
	isClass(t, nil, neither, "[^\x00-\xff]")
}

// TestClassOfOne: P10.1, each character alone: a backslash ahead of six of them.
func TestClassOfOne(t *testing.T) {
	for c := range 256 {
		escape := ""
		if slices.Contains([]int{46, 91, 42, 94, 36, 92}, c) {
			escape = `\`
		}
		for _, mode := range []api.Mode{neither, fold} {
			isClass(t, ranges(c, c), mode, escape+string([]byte{byte(c)}))
		}
		for _, mode := range []api.Mode{chars, both} {
			isClass(t, ranges(c, c), mode, escape+string(rune(c)))
		}
	}
	for _, c := range []int{256, 302, 347, 2047, 2048, 55295, 57344, 65533, 65535, 65536, 1114111} {
		isClass(t, ranges(c, c), chars, string(rune(c)))
		isClass(t, ranges(c, c), both, string(rune(c)))
	}
	isClass(t, ranges(0x20ac, 0x20ac), chars, "\xe2\x82\xac")
}

// TestClassOfAllAndNone: P10.1, all characters of the mode, none, and all but one.
func TestClassOfAllAndNone(t *testing.T) {
	for _, mode := range []api.Mode{neither, fold} {
		isClass(t, ranges(0, 255), mode, ".")
		isClass(t, []api.Range{}, mode, "[^\x00-\xff]")
		isClass(t, ranges(0, 254), mode, "[\x00-\xfe]")
		isClass(t, ranges(1, 255), mode, "[\x01-\xff]")
		isClass(t, ranges(0, 96, 98, 255), mode, "[\x00-`b-\xff]")
	}
	for _, mode := range []api.Mode{chars, both} {
		isClass(t, ranges(0, 55295, 57344, 1114111), mode, ".")
		isClass(t, nil, mode, "[^\x00-\xed\x9f\xbf\xee\x80\x80-\xf4\x8f\xbf\xbf]")
		isClass(t, ranges(0, 255), mode, "[\x00-\xc3\xbf]")
		isClass(t, ranges(0, 55295, 57344, 1114110), mode, "[\x00-\xed\x9f\xbf\xee\x80\x80-\xf4\x8f\xbf\xbe]")
		isClass(t, ranges(0, 55295), mode, "[\x00-\xed\x9f\xbf]")
		isClass(t, ranges(57344, 1114111), mode, "[\xee\x80\x80-\xf4\x8f\xbf\xbf]")
	}
}

// TestClassOfRanges: P10.1, ranges of one number and of two, and the ENDs that are set apart, first, last and alone.
func TestClassOfRanges(t *testing.T) {
	for _, mode := range modes() {
		isClass(t, ranges('a', 'b'), mode, "[a-b]")
		isClass(t, ranges('a', 'a', 'c', 'c'), mode, "[ac]")
		isClass(t, ranges('0', '4', '6', '6', '8', '9'), mode, "[0-468-9]")
		isClass(t, ranges('[', '^'), mode, "[[.[.]-[.^.]]")
		isClass(t, ranges('[', '[', ']', ']'), mode, "[[.[.][.].]]")
		isClass(t, ranges('-', '-', '[', '[', ']', '^'), mode, "[[.-.][.[.][.].]-[.^.]]")
		isClass(t, ranges('+', '-', '/', '0'), mode, "[+-[.-.]/-0]")
		isClass(t, ranges('-', '.', '0', '0'), mode, "[[.-.]-.0]")
		isClass(t, ranges('^', '^', 'a', 'a'), mode, "[[.^.]a]")
		isClass(t, ranges('.', '.', ':', ':', '=', '='), mode, "[.:=]")
		isClass(t, ranges('$', '$', '*', '*', '.', '.', '\\', '\\'), mode, `[$*.\]`)
		isClass(t, ranges(0, 0, '\n', '\n', 127, 127), mode, "[\x00\n\x7f]")
		isClass(t, ranges('\\', ']'), mode, `[\-[.].]]`)
		isClass(t, ranges('Z', '['), mode, "[Z-[.[.]]")
	}
	isClass(t, ranges(0xa9, 0xa9, 0xc3, 0xc4), neither, "[\xa9\xc3-\xc4]")
	isClass(t, ranges(0xa9, 0xa9, 0xc3, 0xc4), chars, "[\xc2\xa9\xc3\x83-\xc3\x84]")
}

// TestNoClass: P10.1, what is no class of the mode.
func TestNoClass(t *testing.T) {
	for _, mode := range modes() {
		isNoClass(t, ranges(2, 3, 4, 4), mode)
		isNoClass(t, ranges(2, 3, 3, 4), mode)
		isNoClass(t, ranges(9, 9, 3, 4), mode)
		isNoClass(t, ranges(9, 9, 9, 9), mode)
		isNoClass(t, ranges(3, 2), mode)
		isNoClass(t, ranges(1, 1, 4, 3), mode)
		isNoClass(t, ranges(-1, 4), mode)
		isNoClass(t, ranges(-1, -1), mode)
		isNoClass(t, ranges(math.MinInt, math.MaxInt), mode)
		isNoClass(t, ranges(math.MaxInt, math.MaxInt), mode)
		isNoClass(t, ranges(1114111, 1114112), mode)
		isNoClass(t, ranges(55296, 57343), mode)
		isNoClass(t, ranges(0, 1114111), mode)
		isNoClass(t, ranges(0, 55296), mode)
		isNoClass(t, ranges(57343, 57344), mode)
		// A rune has 32 bits.
		isNoClass(t, ranges('a'+1<<32, 'a'+1<<32), mode)
	}
	for _, mode := range []api.Mode{neither, fold} {
		isNoClass(t, ranges(256, 256), mode)
		isNoClass(t, ranges(255, 256), mode)
		isNoClass(t, ranges(0, 55295, 57344, 1114111), mode)
	}
}

// modelClass is a class as a pattern, character by character of those of the mode.
func modelClass(l []api.Range, mode api.Mode) string {
	top := 255
	if mode.Chars {
		top = 1114111
	}
	in := make([]bool, top+2)
	exists := func(c int) bool { return c <= top && (c < 55296 || c > 57343 || !mode.Chars) }
	count, one, all := 0, 0, 0
	for c := range top + 1 {
		in[c] = exists(c) && slices.ContainsFunc(l, func(r api.Range) bool { return r.Lo <= c && c <= r.Hi })
		if in[c] {
			count, one = count+1, c
		}
		if exists(c) {
			all++
		}
	}
	text := func(c int) string {
		if mode.Chars {
			return string(rune(c))
		}
		return string([]byte{byte(c)})
	}
	switch {
	case count == 1 && strings.Contains(`.[*^$\`, text(one)):
		return `\` + text(one)
	case count == 1:
		return text(one)
	case count == all:
		return "."
	case count == 0:
		for c := range in {
			in[c] = exists(c)
		}
		return "[^" + modelRuns(in, text) + "]"
	}
	return "[" + modelRuns(in, text) + "]"
}

// modelRuns is the runs of numbers that are in, each where it begins and where it ends.
func modelRuns(in []bool, text func(int) string) string {
	s := ""
	for c := range in {
		begins := in[c] && (c == 0 || !in[c-1])
		ends := in[c] && !in[c+1]
		if ends && !begins {
			s += "-"
		}
		if !begins && !ends {
			continue
		}
		if strings.Contains("][-^", text(c)) {
			s += "[." + text(c) + ".]"
		} else {
			s += text(c)
		}
	}
	return s
}

// numbers gives numbers below a bound, always the same ones.
func numbers(seed uint32) func(int) int {
	return func(below int) int {
		seed = seed*1664525 + 1013904223
		return int(seed>>8) % below
	}
}

// someClass is a class of a mode: few ranges among bytes, many of them near the characters that mean something in a pattern.
func someClass(next func(int) int, mode api.Mode) []api.Range {
	special := []int{0, '$', '*', '-', '.', '/', ':', '=', 'A', 'Z', '[', '\\', ']', '^', 'a', 'z', 127, 128, 254, 255}
	var l []api.Range
	for range next(5) {
		lo := special[next(len(special))] + next(3) - 1
		if next(4) == 0 {
			lo = next(256)
		}
		l = append(l, api.Range{Lo: lo, Hi: lo + next(4)*next(4)})
	}
	if next(6) == 0 {
		l = classes.Not(l, mode.Chars)
	}
	if mode.Fold {
		l = classes.Fold(l)
	}
	return classes.Norm(l, mode.Chars)
}

// comesBackAsClass: P10.4, Parse of a class's text is the class.
func comesBackAsClass(t *testing.T, l []api.Range, mode api.Mode) {
	t.Helper()
	s, _ := show.Class(l, mode)
	n, err := parse.Parse(s, mode)
	if err != nil || n.Kind != api.NSet || !slices.Equal(n.Ranges, l) {
		t.Errorf("Parse(%.200q, %v): %.200v, %v; not %.200v", s, mode, n, err, l)
	}
}

// TestManyClasses: P10.1 and P10.4, against the model, and there and back.
func TestManyClasses(t *testing.T) {
	next := numbers(7)
	for range 6000 {
		mode := []api.Mode{neither, fold}[next(2)]
		l := someClass(next, mode)
		isClass(t, l, mode, modelClass(l, mode))
		comesBackAsClass(t, l, mode)
	}
	for range 20 {
		mode := []api.Mode{chars, both}[next(2)]
		l := someClass(next, mode)
		isClass(t, l, mode, modelClass(l, mode))
	}
	for range 6000 {
		mode := []api.Mode{chars, both}[next(2)]
		comesBackAsClass(t, someClass(next, mode), mode)
	}
}

// TestAllRanges: P10.1 and P10.4, each range of bytes, and each two of single bytes.
func TestAllRanges(t *testing.T) {
	for lo := range 256 {
		for hi := lo; hi < 256; hi++ {
			isClass(t, ranges(lo, hi), neither, modelClass(ranges(lo, hi), neither))
			comesBackAsClass(t, ranges(lo, hi), neither)
			comesBackAsClass(t, ranges(lo, hi), chars)
			if hi > lo+1 {
				comesBackAsClass(t, ranges(lo, lo, hi, hi), neither)
				comesBackAsClass(t, ranges(lo, lo, hi, hi), chars)
			}
		}
	}
}

// TestGreatClass: P10.1, a class has no bound: every other character.
func TestGreatClass(t *testing.T) {
	var l []api.Range
	var want strings.Builder
	want.WriteByte('[')
	for c := 1000; c <= 1114111; c += 2 {
		if c < 55296 || c > 57343 {
			l = append(l, api.Range{Lo: c, Hi: c})
			want.WriteRune(rune(c))
		}
	}
	want.WriteByte(']')
	isClass(t, l, chars, want.String())
	isClass(t, l, both, want.String())
}

// TestClassKeepsWhatIsGiven: P3, what is handed in stays as it is, and what stands behind it; an answer does not change with it.
func TestClassKeepsWhatIsGiven(t *testing.T) {
	for _, mode := range modes() {
		l := ranges('[', '^', 'a', 'c', 7, 5)
		kept := slices.Clone(l)
		s, _ := show.Class(l[:2], mode)
		show.Class(l, mode)
		if !slices.Equal(l, kept) {
			t.Errorf("Class(%v) changed it: %v", kept, l)
		}
		l[0].Lo = 'Z'
		if want := "[[.[.]-[.^.]a-c]"; s != want {
			t.Errorf("Class: %q, not %q", s, want)
		}
	}
}
