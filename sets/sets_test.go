package sets_test

import (
	"math"
	"slices"
	"testing"

	"dredge/api"
	"dredge/sets"
)

// model is a set written out, so that the calls are held against something that knows no words of 64 bits.
type model [256]bool

// modelOf reads a set by the chapter's own words: the bit of the value 2 to the power of b % 64 of the word b / 64.
func modelOf(s api.Set) model {
	var m model
	for b := range m {
		value := uint64(1)
		for range b % 64 {
			value *= 2
		}
		m[b] = s[b/64]/value%2 == 1
	}
	return m
}

func modelWhere(in func(b int) bool) model {
	var m model
	for b := range m {
		m[b] = in(b)
	}
	return m
}

func (m model) bytes() []int {
	var l []int
	for b, in := range m {
		if in {
			l = append(l, b)
		}
	}
	return l
}

func (m model) class() []api.Range {
	var l []api.Range
	for b := 0; b < 256; b++ {
		if !m[b] {
			continue
		}
		lo := b
		for b < 255 && m[b+1] {
			b++
		}
		l = append(l, api.Range{Lo: lo, Hi: b})
	}
	return l
}

// samples is sets of all kinds: the edges, one bit at each end of each word, and some of many bytes, always the same ones.
func samples() []api.Set {
	const ones = math.MaxUint64
	l := []api.Set{
		{},
		{ones, ones, ones, ones},
		{ones, 0, 0, ones},
		{0, ones, ones, 0},
		{1, 1, 1, 1},
		{1 << 63, 1 << 63, 1 << 63, 1 << 63},
		{0x5555555555555555, 0x5555555555555555, 0x5555555555555555, 0x5555555555555555},
		{0, 0x07FFFFFE00000000, 0, 0},
		{0, 0x0000000007FFFFFE, 0, 0},
		{0, 0xF800000178000001, 0, 0},
	}
	for i := range 4 {
		var first, last api.Set
		first[i], last[i] = 1, 1<<63
		l = append(l, first, last)
	}
	x := uint64(1)
	for range 40 {
		var s api.Set
		for i := range s {
			x = x*6364136223846793005 + 1442695040888963407
			s[i] = x ^ x>>29
		}
		l = append(l, s)
	}
	return l
}

// numbers is all bytes, and numbers that are none.
func numbers() []int {
	l := []int{math.MinInt, math.MinInt + 1, math.MinInt32, -257, -256, -255, -65, -64, -63, -7, -2, -1}
	for b := range 256 {
		l = append(l, b)
	}
	return append(l, 256, 257, 304, 319, 320, 511, 512, math.MaxInt32, math.MaxInt-1, math.MaxInt)
}

func isByte(b int) bool { return 0 <= b && b <= 255 }

func mustRange(t *testing.T, lo, hi int) api.Set {
	t.Helper()
	s, e := sets.Range(lo, hi)
	if e != api.OK {
		t.Fatalf("Range(%d, %d): %v", lo, hi, e)
	}
	return s
}

func mustFrom(t *testing.T, l []api.Range) api.Set {
	t.Helper()
	s, e := sets.From(l)
	if e != api.OK {
		t.Fatalf("From(%v): %v", l, e)
	}
	return s
}

// P1.1

func TestOf(t *testing.T) {
	var all []byte
	for b := range 256 {
		all = append(all, byte(b))
	}
	for _, text := range []string{"", "a", "ba", "aaaa", "\x00", "\xff", "\x00\xff", "\x3f\x40\x7f\x80\xbf\xc0", "\xe2\x82\xac", "é\xff€", string(all)} {
		want := modelWhere(func(b int) bool { return slices.Contains([]byte(text), byte(b)) })
		if got := modelOf(sets.Of(text)); got != want {
			t.Errorf("Of(%q): %v, want %v", text, got.bytes(), want.bytes())
		}
	}
}

func TestOfStandsInItsWord(t *testing.T) {
	if s, want := sets.Of("\x00\x3f\x40\x80\xc1\xff"), (api.Set{1<<63 | 1, 1, 1, 1<<63 | 2}); s != want {
		t.Errorf("%x, want %x", s, want)
	}
}

func TestRangeOfAllBounds(t *testing.T) {
	for lo := range 256 {
		for hi := lo; hi < 256; hi++ {
			want := modelWhere(func(b int) bool { return lo <= b && b <= hi })
			if got := modelOf(mustRange(t, lo, hi)); got != want {
				t.Fatalf("Range(%d, %d): %v", lo, hi, got.bytes())
			}
		}
	}
}

// wrongRanges are such that Range must refuse.
func wrongRanges() []api.Range {
	return []api.Range{
		{Lo: 5, Hi: 4}, {Lo: 255, Hi: 0}, {Lo: 1, Hi: 0}, {Lo: 0, Hi: 256}, {Lo: 255, Hi: 256}, {Lo: 256, Hi: 256}, {Lo: 256, Hi: 255},
		{Lo: -1, Hi: 3}, {Lo: -1, Hi: -1}, {Lo: 0, Hi: -1}, {Lo: -5, Hi: -3}, {Lo: -1, Hi: 255}, {Lo: -1, Hi: 256}, {Lo: 300, Hi: 310},
		{Lo: math.MinInt, Hi: 5}, {Lo: 5, Hi: math.MaxInt}, {Lo: math.MinInt, Hi: math.MaxInt}, {Lo: math.MaxInt, Hi: math.MinInt}, {Lo: math.MaxInt, Hi: math.MaxInt},
	}
}

func TestRangeRefuses(t *testing.T) {
	for _, r := range wrongRanges() {
		if s, e := sets.Range(r.Lo, r.Hi); e != api.ErrArg || s != (api.Set{}) {
			t.Errorf("Range(%d, %d): %v, %v", r.Lo, r.Hi, s, e)
		}
	}
}

// rangeLists are lists with their ranges in any order, which overlap, touch, lie within each other or stand apart.
func rangeLists() [][]api.Range {
	return [][]api.Range{
		nil,
		{},
		{{Lo: 0, Hi: 0}},
		{{Lo: 255, Hi: 255}},
		{{Lo: 0, Hi: 255}},
		{{Lo: 255, Hi: 255}, {Lo: 0, Hi: 0}},
		{{Lo: 3, Hi: 5}, {Lo: 1, Hi: 3}},
		{{Lo: 3, Hi: 5}, {Lo: 1, Hi: 2}},
		{{Lo: 1, Hi: 2}, {Lo: 4, Hi: 5}},
		{{Lo: 4, Hi: 5}, {Lo: 1, Hi: 2}, {Lo: 3, Hi: 3}},
		{{Lo: 10, Hi: 90}, {Lo: 20, Hi: 30}},
		{{Lo: 20, Hi: 30}, {Lo: 10, Hi: 90}},
		{{Lo: 7, Hi: 7}, {Lo: 7, Hi: 7}, {Lo: 7, Hi: 7}},
		{{Lo: 60, Hi: 63}, {Lo: 64, Hi: 66}, {Lo: 128, Hi: 200}, {Lo: 127, Hi: 127}},
		{{Lo: 128, Hi: 255}, {Lo: 0, Hi: 127}},
		{{Lo: 128, Hi: 255}, {Lo: 0, Hi: 126}},
	}
}

func modelOfRanges(l []api.Range) model {
	return modelWhere(func(b int) bool {
		return slices.ContainsFunc(l, func(r api.Range) bool { return r.Lo <= b && b <= r.Hi })
	})
}

func TestFrom(t *testing.T) {
	for _, l := range rangeLists() {
		if got, want := modelOf(mustFrom(t, l)), modelOfRanges(l); got != want {
			t.Errorf("From(%v): %v", l, got.bytes())
		}
	}
}

func TestFromRefusesWhereverTheWrongOneStands(t *testing.T) {
	right := []api.Range{{Lo: 1, Hi: 3}, {Lo: 70, Hi: 200}}
	for _, r := range wrongRanges() {
		for at := range len(right) + 1 {
			l := slices.Insert(slices.Clone(right), at, r)
			if s, e := sets.From(l); e != api.ErrArg || s != (api.Set{}) {
				t.Errorf("From(%v): %v, %v", l, s, e)
			}
		}
	}
}

func TestFromWritesNothing(t *testing.T) {
	array := []api.Range{{Lo: 9, Hi: 12}, {Lo: 3, Hi: 5}, {Lo: 1, Hi: 3}, {Lo: 77, Hi: 7}}
	before := slices.Clone(array)
	mustFrom(t, array[:3])
	sets.From(array)
	if !slices.Equal(array, before) {
		t.Errorf("%v became %v", before, array)
	}
}

// P1.2

func TestHas(t *testing.T) {
	for _, s := range samples() {
		m := modelOf(s)
		for _, b := range numbers() {
			if got, want := sets.Has(s, b), isByte(b) && m[b&255]; got != want {
				t.Fatalf("Has(%v, %d): %v", m.bytes(), b, got)
			}
		}
	}
}

func TestWithAndWithout(t *testing.T) {
	for _, s := range samples() {
		for _, b := range numbers() {
			with, without := modelOf(s), modelOf(s)
			if isByte(b) {
				with[b], without[b] = true, false
			}
			before := s
			if got := modelOf(sets.With(s, b)); got != with {
				t.Fatalf("With(%v, %d): %v", modelOf(s).bytes(), b, got.bytes())
			}
			if got := modelOf(sets.Without(s, b)); got != without {
				t.Fatalf("Without(%v, %d): %v", modelOf(s).bytes(), b, got.bytes())
			}
			if s != before {
				t.Fatal("what was handed in has changed")
			}
		}
	}
}

// P1.3

func TestOrAndLess(t *testing.T) {
	for _, a := range samples() {
		for _, b := range samples() {
			ma, mb := modelOf(a), modelOf(b)
			or := modelWhere(func(b int) bool { return ma[b] || mb[b] })
			and := modelWhere(func(b int) bool { return ma[b] && mb[b] })
			less := modelWhere(func(b int) bool { return ma[b] && !mb[b] })
			if modelOf(sets.Or(a, b)) != or || modelOf(sets.And(a, b)) != and || modelOf(sets.Less(a, b)) != less {
				t.Fatalf("Or, And or Less of %v and %v", ma.bytes(), mb.bytes())
			}
		}
	}
}

func TestNot(t *testing.T) {
	for _, s := range samples() {
		m := modelOf(s)
		if got := modelOf(sets.Not(s)); got != modelWhere(func(b int) bool { return !m[b] }) {
			t.Errorf("Not(%v): %v", m.bytes(), got.bytes())
		}
	}
}

const (
	upper = "ABCDEFGHIJKLMNOPQRSTUVWXYZ"
	lower = "abcdefghijklmnopqrstuvwxyz"
)

func TestFoldOfOneByte(t *testing.T) {
	for b := range 256 {
		text := string([]byte{byte(b)})
		want := text
		for i := range upper {
			if pair := upper[i:i+1] + lower[i:i+1]; text == pair[:1] || text == pair[1:] {
				want = pair
			}
		}
		if got := sets.Fold(sets.Of(text)); got != sets.Of(want) {
			t.Errorf("Fold of %d: %v", b, modelOf(got).bytes())
		}
	}
}

func TestFoldOfMany(t *testing.T) {
	for _, s := range samples() {
		want := modelOf(s)
		for i := range upper {
			both := want[upper[i]] || want[lower[i]]
			want[upper[i]], want[lower[i]] = both, both
		}
		if got := modelOf(sets.Fold(s)); got != want {
			t.Errorf("Fold(%v): %v", modelOf(s).bytes(), got.bytes())
		}
	}
	beside := sets.Of("@[`{\xc0\xe0\xc4\xe4\x01\x21")
	if sets.Fold(beside) != beside {
		t.Error("what stands beside the letters is folded")
	}
}

// P1.4

func TestCount(t *testing.T) {
	for _, s := range samples() {
		if got, want := sets.Count(s), len(modelOf(s).bytes()); got != want {
			t.Errorf("Count(%v): %d, want %d", modelOf(s).bytes(), got, want)
		}
	}
	if sets.Count(api.Set{}) != 0 || sets.Count(sets.Not(api.Set{})) != 256 {
		t.Error("Count of no byte, of all bytes")
	}
}

func TestNext(t *testing.T) {
	for _, s := range samples() {
		l := modelOf(s).bytes()
		for _, from := range numbers() {
			want, found := 0, false
			if i := slices.IndexFunc(l, func(b int) bool { return b >= from }); i >= 0 {
				want, found = l[i], true
			}
			if got, ok := sets.Next(s, from); got != want || ok != found {
				t.Fatalf("Next(%v, %d): %d, %v", l, from, got, ok)
			}
		}
	}
}

// P1.5

func TestAllRises(t *testing.T) {
	for _, s := range samples() {
		if got, want := slices.Collect(sets.All(s)), modelOf(s).bytes(); !slices.Equal(got, want) {
			t.Errorf("All: %v, want %v", got, want)
		}
	}
}

func TestAllIsLeftEarlyAndGoneOverAgain(t *testing.T) {
	for _, s := range samples() {
		want := modelOf(s).bytes()
		all := sets.All(s)
		for stop := range want {
			var got []int
			for b := range all {
				got = append(got, b)
				if len(got) == stop+1 {
					break
				}
			}
			if !slices.Equal(got, want[:stop+1]) {
				t.Fatalf("All, left behind %d: %v", stop+1, got)
			}
		}
		for range 2 {
			if got := slices.Collect(all); !slices.Equal(got, want) {
				t.Fatalf("All, gone over again: %v, want %v", got, want)
			}
		}
	}
}

func TestAllWithinItself(t *testing.T) {
	want := []int{0, 63, 64, 200, 255}
	all := sets.All(sets.Of("\x00\x3f\x40\xc8\xff"))
	var outer []int
	for a := range all {
		outer = append(outer, a)
		var inner []int
		for b := range all {
			if inner = append(inner, b); b > a {
				break
			}
		}
		if n := min(len(outer)+1, len(want)); !slices.Equal(inner, want[:n]) {
			t.Errorf("All within All at %d: %v", a, inner)
		}
	}
	if !slices.Equal(outer, want) {
		t.Errorf("All around All: %v", outer)
	}
}

func TestAllKeepsItsSet(t *testing.T) {
	s := sets.Of("bd")
	all := sets.All(s)
	var got []int
	for b := range all {
		got = append(got, b)
		s = sets.Without(sets.With(s, b+1), 'd')
		sets.Next(s, b)
	}
	if !slices.Equal(got, []int{'b', 'd'}) || s != sets.Of("bce") {
		t.Errorf("All while another set is made of its set: %v, %v", got, modelOf(s).bytes())
	}
}

func TestRanges(t *testing.T) {
	for _, s := range samples() {
		if got, want := sets.Ranges(s), modelOf(s).class(); !slices.Equal(got, want) {
			t.Errorf("Ranges: %v, want %v", got, want)
		}
	}
}

func TestRangesIsAClass(t *testing.T) {
	for _, s := range samples() {
		l := sets.Ranges(s)
		for i, r := range l {
			if r.Lo > r.Hi || !isByte(r.Lo) || !isByte(r.Hi) || i > 0 && r.Lo < l[i-1].Hi+2 {
				t.Errorf("Ranges: %v is no class", l)
			}
		}
	}
}

func TestRangesIsNewMemory(t *testing.T) {
	s := sets.Of("adf")
	a, b := sets.Ranges(s), sets.Ranges(s)
	clear(a[:cap(a)])
	want := []api.Range{{Lo: 'a', Hi: 'a'}, {Lo: 'd', Hi: 'd'}, {Lo: 'f', Hi: 'f'}}
	if c := sets.Ranges(s); !slices.Equal(b, want) || !slices.Equal(c, want) {
		t.Errorf("answers share memory: %v, %v", b, c)
	}
}

// P1.6

func TestRangesAndFromGoBack(t *testing.T) {
	for _, s := range samples() {
		if got := mustFrom(t, sets.Ranges(s)); got != s {
			t.Errorf("From of Ranges of %v: %v", modelOf(s).bytes(), modelOf(got).bytes())
		}
	}
	for _, l := range rangeLists() {
		if got, want := sets.Ranges(mustFrom(t, l)), modelOfRanges(l).class(); !slices.Equal(got, want) {
			t.Errorf("Ranges of From of %v: %v", l, got)
		}
	}
}

func TestLawsOfOneSet(t *testing.T) {
	for _, s := range samples() {
		if sets.Not(sets.Not(s)) != s {
			t.Errorf("Not twice: %v", modelOf(s).bytes())
		}
		if sets.Count(s)+sets.Count(sets.Not(s)) != 256 {
			t.Errorf("Count, and Count of Not: %v", modelOf(s).bytes())
		}
		if once := sets.Fold(s); sets.Fold(once) != once {
			t.Errorf("Fold twice: %v", modelOf(s).bytes())
		}
	}
}

func TestLawsOfTwoSets(t *testing.T) {
	for _, a := range samples() {
		for _, b := range samples() {
			if sets.Not(sets.Or(a, b)) != sets.And(sets.Not(a), sets.Not(b)) {
				t.Fatalf("Not of Or: %v, %v", modelOf(a).bytes(), modelOf(b).bytes())
			}
			if sets.Less(a, b) != sets.And(a, sets.Not(b)) {
				t.Fatalf("Less: %v, %v", modelOf(a).bytes(), modelOf(b).bytes())
			}
		}
	}
}

// Ways

func TestASetIsAKey(t *testing.T) {
	names := map[api.Set]int{sets.Of("ba"): 1, mustRange(t, '0', '9'): 2}
	if names[sets.Of("aabb")] != 1 || names[sets.Of("9876543210")] != 2 || names[sets.Of("a")] != 0 {
		t.Error("sets with the same bytes are not the same key")
	}
}

// TestExamples is the chapter's table of examples.
func TestExamples(t *testing.T) {
	ba := sets.Of("ba")
	if !slices.Equal(slices.Collect(sets.All(ba)), []int{97, 98}) || !slices.Equal(sets.Ranges(ba), []api.Range{{Lo: 97, Hi: 98}}) {
		t.Error("Of of ba")
	}
	digits := mustRange(t, 48, 57)
	if digits != sets.Of("0123456789") || sets.Count(digits) != 10 || sets.Has(digits, 304) {
		t.Error("the digits")
	}
	if b, ok := sets.Next(digits, 50); b != 50 || !ok {
		t.Error("Next from 50:", b, ok)
	}
	if b, ok := sets.Next(digits, 58); b != 0 || ok {
		t.Error("Next from 58:", b, ok)
	}
	if b, ok := sets.Next(digits, -7); b != 48 || !ok {
		t.Error("Next from -7:", b, ok)
	}
	if l := slices.Collect(sets.All(sets.Fold(sets.Of("aZ1")))); !slices.Equal(l, []int{49, 65, 90, 97, 122}) {
		t.Error("Fold of aZ1:", l)
	}
	oneToFive := mustFrom(t, []api.Range{{Lo: 3, Hi: 5}, {Lo: 1, Hi: 3}})
	if oneToFive != sets.Of("\x01\x02\x03\x04\x05") || !slices.Equal(sets.Ranges(oneToFive), []api.Range{{Lo: 1, Hi: 5}}) {
		t.Error("From of (3, 5), (1, 3)")
	}
	if l := sets.Ranges(sets.Not(api.Set{})); !slices.Equal(l, []api.Range{{Lo: 0, Hi: 255}}) {
		t.Error("Ranges of Not of the empty set:", l)
	}
	if l := sets.Ranges(api.Set{}); len(l) != 0 {
		t.Error("Ranges of the empty set:", l)
	}
	for _, r := range []api.Range{{Lo: 5, Hi: 4}, {Lo: 0, Hi: 256}} {
		if s, e := sets.Range(r.Lo, r.Hi); e != api.ErrArg || s != (api.Set{}) {
			t.Error("Range:", r, s, e)
		}
	}
}
