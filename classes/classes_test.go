package classes_test

import (
	"math"
	"math/big"
	"slices"
	"testing"

	"dredge/api"
	"dredge/classes"
)

// in: a list stands for the numbers that are in one of its ranges.
func in(l []api.Range, c int) bool {
	for _, r := range l {
		if r.Lo <= c && c <= r.Hi {
			return true
		}
	}
	return false
}

// character: from 0 to Top, with chars none from 55296 to 57343.
func character(c int, chars bool) bool {
	if chars {
		return 0 <= c && c <= 55295 || 57344 <= c && c <= 1114111
	}
	return 0 <= c && c <= 255
}

// inFolded: a number of l, or a letter whose other case is.
func inFolded(l []api.Range, c int) bool {
	return in(l, c) || 65 <= c && c <= 90 && in(l, c+32) || 97 <= c && c <= 122 && in(l, c-32)
}

// isClass: rising, with at least one number between each two that is in neither, each with Lo not above Hi.
func isClass(l []api.Range) bool {
	for i, r := range l {
		if r.Lo > r.Hi {
			return false
		}
		if i > 0 && (l[i-1].Hi >= r.Lo || l[i-1].Hi+1 == r.Lo) {
			return false
		}
	}
	return true
}

// edges are the numbers at which something changes that no list says.
func edges() []int {
	return []int{math.MinInt, -1, 0, 64, 65, 90, 91, 96, 97, 122, 123, 255, 256, 55295, 55296, 57343, 57344, 1114111, 1114112, math.MaxInt}
}

// points are the numbers between which nothing changes: where a range begins or ends, what is beside it, and what is a case away; rising.
func points(lists ...[]api.Range) []int {
	ends := edges()
	for _, l := range lists {
		for _, r := range l {
			ends = append(ends, r.Lo, r.Hi)
		}
	}
	var all []int
	for _, c := range ends {
		for _, by := range []int{-33, -32, -31, -1, 0, 1, 31, 32, 33} {
			if (by < 0) == (c+by < c) {
				all = append(all, c+by)
			}
		}
	}
	slices.Sort(all)
	return slices.Compact(all)
}

// holds: what was answered is a class, and has just the numbers that are wanted.
func holds(t *testing.T, what string, got []api.Range, want func(c int) bool, lists ...[]api.Range) {
	t.Helper()
	if !isClass(got) {
		t.Fatalf("%s of %v: %v is no class", what, lists, got)
	}
	for _, c := range points(append(lists, got)...) {
		if in(got, c) != want(c) {
			t.Fatalf("%s of %v: %v: %d", what, lists, got, c)
		}
	}
}

// countOf counts what lies from point to point.
func countOf(l []api.Range) int {
	n := new(big.Int)
	all := points(l)
	for i, c := range all {
		if in(l, c) {
			n.Add(n, big.NewInt(1))
		}
		if i+1 < len(all) && all[i+1] != c+1 && in(l, c+1) {
			between := new(big.Int).Sub(big.NewInt(int64(all[i+1])), big.NewInt(int64(c)))
			n.Add(n, between.Sub(between, big.NewInt(1)))
		}
	}
	if most := big.NewInt(4611686018427387903); n.Cmp(most) > 0 {
		return int(most.Int64())
	}
	return int(n.Int64())
}

// same: no number is in one of both alone.
func same(a, b []api.Range) bool {
	return !slices.ContainsFunc(points(a, b), func(c int) bool { return in(a, c) != in(b, c) })
}

// row is a row of numbers that look picked.
type row uint64

func (r *row) below(n int) int {
	*r = *r*6364136223846793005 + 1442695040888963407
	return int(uint64(*r>>33) % uint64(n))
}

// number is one near an edge, or a small one.
func (r *row) number() int {
	if l := edges(); r.below(3) > 0 {
		return l[r.below(len(l))] + r.below(5) - 2 // it may wrap round: that is an edge, too
	}
	return r.below(40)
}

// list is some ranges in any order, some of them without a number, some side by side.
func (r *row) list() []api.Range {
	var l []api.Range
	for range r.below(7) {
		x := api.Range{Lo: r.number(), Hi: r.number()}
		if r.below(4) > 0 && x.Lo > x.Hi {
			x.Lo, x.Hi = x.Hi, x.Lo
		}
		if len(l) > 0 && r.below(4) == 0 {
			x.Lo = l[len(l)-1].Hi + 1
		}
		if r.below(4) == 0 {
			x.Hi = x.Lo + r.below(3)
		}
		l = append(l, x)
	}
	return l
}

func ranges(ends ...int) []api.Range {
	var l []api.Range
	for i := 0; i < len(ends); i += 2 {
		l = append(l, api.Range{Lo: ends[i], Hi: ends[i+1]})
	}
	return l
}

func equals(t *testing.T, what string, got []api.Range, want ...int) {
	t.Helper()
	if !slices.Equal(got, ranges(want...)) {
		t.Errorf("%s: %v, not %v", what, got, ranges(want...))
	}
}

const rounds = 4000

// TestTop: the chapter's numbers.
func TestTop(t *testing.T) {
	if classes.Top(false) != 255 || classes.Top(true) != 1114111 {
		t.Error("Top:", classes.Top(false), classes.Top(true))
	}
}

// TestExamples: P6.1 to P6.3, the chapter's examples.
func TestExamples(t *testing.T) {
	equals(t, "Norm", classes.Norm(ranges(5, 7, 1, 2, 3, 3, 9, 8), false), 1, 3, 5, 7)
	equals(t, "Norm", classes.Norm(ranges(-5, 2, 250, 999), false), 0, 2, 250, 255)
	equals(t, "Norm", classes.Norm(ranges(-5, 2, 250, 999), true), 0, 2, 250, 999)
	equals(t, "Norm", classes.Norm(ranges(55000, 60000), true), 55000, 55295, 57344, 60000)
	equals(t, "Less", classes.Less(ranges(1, 9), ranges(3, 4, 8, 20)), 1, 2, 5, 7)
	equals(t, "Not", classes.Not(nil, false), 0, 255)
	equals(t, "Not", classes.Not(nil, true), 0, 55295, 57344, 1114111)
	equals(t, "Fold", classes.Fold(ranges(64, 66)), 64, 66, 97, 98)
	if n := classes.Count(ranges(1, 3, 2, 5)); n != 5 {
		t.Error("Count:", n)
	}
	if classes.Right(ranges(1, 2, 3, 4), false) {
		t.Error("Right of (1, 2), (3, 4)")
	}
}

// TestRight: P6.1, a class of the mode, as it stands.
func TestRight(t *testing.T) {
	for _, x := range []struct {
		l            []api.Range
		bytes, chars bool
	}{
		{nil, true, true},
		{[]api.Range{}, true, true},
		{ranges(0, 255), true, true},
		{ranges(0, 0, 2, 2, 255, 255), true, true},
		{ranges(1, 2, 4, 4), true, true},
		{ranges(1, 2, 3, 4), false, false},
		{ranges(1, 2, 2, 4), false, false},
		{ranges(1, 9, 3, 4), false, false},
		{ranges(4, 4, 1, 2), false, false},
		{ranges(1, 2, 1, 2), false, false},
		{ranges(2, 1), false, false},
		{ranges(2, 1, 4, 5), false, false},
		{ranges(1, 0, 4, 5), false, false},
		{ranges(1, 2, 5, 4), false, false},
		{ranges(-1, 0), false, false},
		{ranges(-1, -1), false, false},
		{ranges(0, 256), false, true},
		{ranges(256, 256), false, true},
		{ranges(0, 55295, 57344, 1114111), false, true},
		{ranges(0, 55296), false, false},
		{ranges(57343, 57344), false, false},
		{ranges(56000, 56000), false, false},
		{ranges(55295, 57344), false, false},
		{ranges(0, 1114112), false, false},
		{ranges(1114112, 1114112), false, false},
		{ranges(math.MaxInt, math.MaxInt), false, false},
		{ranges(math.MinInt, math.MinInt), false, false},
		{ranges(math.MaxInt, math.MinInt), false, false},
	} {
		if got := classes.Right(x.l, false); got != x.bytes {
			t.Errorf("Right of %v, without: %v", x.l, got)
		}
		if got := classes.Right(x.l, true); got != x.chars {
			t.Errorf("Right of %v, with: %v", x.l, got)
		}
	}
}

// TestRightOfAny: P6.1, held against the words.
func TestRightOfAny(t *testing.T) {
	r := row(1)
	for range rounds {
		l := r.list()
		for _, chars := range []bool{false, true} {
			for _, m := range [][]api.Range{l, classes.Norm(l, chars), classes.Or(l, nil)} {
				want := isClass(m) && !slices.ContainsFunc(points(m), func(c int) bool { return in(m, c) && !character(c, chars) })
				if got := classes.Right(m, chars); got != want {
					t.Fatalf("Right of %v, %v: %v", m, chars, got)
				}
			}
		}
	}
}

// TestOfAny: P6.1, P6.2 and P6.5, each class that is answered, held against the words.
func TestOfAny(t *testing.T) {
	r := row(2)
	for range rounds {
		a, b := r.list(), r.list()
		for _, chars := range []bool{false, true} {
			holds(t, "Norm", classes.Norm(a, chars), func(c int) bool { return in(a, c) && character(c, chars) }, a)
			holds(t, "Not", classes.Not(a, chars), func(c int) bool { return !in(a, c) && character(c, chars) }, a)
		}
		holds(t, "Or", classes.Or(a, b), func(c int) bool { return in(a, c) || in(b, c) }, a, b)
		holds(t, "And", classes.And(a, b), func(c int) bool { return in(a, c) && in(b, c) }, a, b)
		holds(t, "Less", classes.Less(a, b), func(c int) bool { return in(a, c) && !in(b, c) }, a, b)
		holds(t, "Fold", classes.Fold(a), func(c int) bool { return inFolded(a, c) }, a)
	}
}

// TestNumbersOfAny: P6.3, held against the words.
func TestNumbersOfAny(t *testing.T) {
	r := row(3)
	for range rounds {
		a, b := r.list(), r.list()
		for _, c := range points(a) {
			if classes.Has(a, c) != in(a, c) {
				t.Fatalf("Has of %v and %d: %v", a, c, classes.Has(a, c))
			}
		}
		if n := classes.Count(a); n != countOf(a) {
			t.Fatalf("Count of %v: %d, not %d", a, n, countOf(a))
		}
		for _, l := range [][]api.Range{b, classes.Norm(a, true), classes.Or(a, nil), slices.Concat(a, a)} {
			if got := classes.Same(a, l); got != same(a, l) || got != classes.Same(l, a) {
				t.Fatalf("Same of %v and %v: %v", a, l, got)
			}
		}
	}
}

// TestWhole: P6.2 and P6.3, all numbers there are, and those at their ends.
func TestWhole(t *testing.T) {
	whole := ranges(math.MinInt, math.MaxInt)
	equals(t, "Or", classes.Or(ranges(5, math.MaxInt), ranges(math.MinInt, 4)), math.MinInt, math.MaxInt)
	equals(t, "Or", classes.Or(ranges(math.MaxInt, math.MaxInt), ranges(math.MinInt, math.MinInt)), math.MinInt, math.MinInt, math.MaxInt, math.MaxInt)
	equals(t, "Or", classes.Or(ranges(math.MinInt, math.MinInt), ranges(math.MinInt, math.MinInt)), math.MinInt, math.MinInt)
	equals(t, "And", classes.And(whole, whole), math.MinInt, math.MaxInt)
	equals(t, "And", classes.And(whole, ranges(math.MaxInt, math.MinInt)))
	equals(t, "Less", classes.Less(whole, whole))
	equals(t, "Less", classes.Less(whole, nil), math.MinInt, math.MaxInt)
	equals(t, "Less", classes.Less(whole, ranges(7, 7)), math.MinInt, 6, 8, math.MaxInt)
	equals(t, "Less", classes.Less(whole, ranges(math.MinInt, math.MinInt)), math.MinInt+1, math.MaxInt)
	equals(t, "Less", classes.Less(whole, ranges(math.MaxInt, math.MaxInt)), math.MinInt, math.MaxInt-1)
	equals(t, "Less", classes.Less(nil, whole))
	equals(t, "Norm", classes.Norm(whole, false), 0, 255)
	equals(t, "Norm", classes.Norm(whole, true), 0, 55295, 57344, 1114111)
	equals(t, "Norm", classes.Norm(nil, true))
	equals(t, "Not", classes.Not(whole, false))
	equals(t, "Not", classes.Not(whole, true))
	equals(t, "Not", classes.Not(ranges(math.MaxInt, math.MinInt), false), 0, 255)
	equals(t, "Fold", classes.Fold(whole), math.MinInt, math.MaxInt)
	if !classes.Has(whole, math.MinInt) || !classes.Has(whole, math.MaxInt) || classes.Has(ranges(math.MaxInt, math.MinInt), 0) || classes.Has(nil, 0) {
		t.Error("Has")
	}
}

// TestAnyNumbers: P6.2, any number is a number but for Norm and Not.
func TestAnyNumbers(t *testing.T) {
	l := ranges(-3, -1, 56000, 56001, 2000000, 2000009)
	equals(t, "Or", classes.Or(l, ranges(0, 0)), -3, 0, 56000, 56001, 2000000, 2000009)
	equals(t, "And", classes.And(l, ranges(-2, 2000000)), -2, -1, 56000, 56001, 2000000, 2000000)
	equals(t, "Less", classes.Less(l, ranges(-2, 56000)), -3, -3, 56001, 56001, 2000000, 2000009)
	equals(t, "Fold", classes.Fold(l), -3, -1, 56000, 56001, 2000000, 2000009)
}

// TestFold: P6.2, letters alone have another case.
func TestFold(t *testing.T) {
	equals(t, "Fold", classes.Fold(nil))
	equals(t, "Fold", classes.Fold(ranges(65, 90)), 65, 90, 97, 122)
	equals(t, "Fold", classes.Fold(ranges(97, 122)), 65, 90, 97, 122)
	equals(t, "Fold", classes.Fold(ranges(90, 97)), 65, 65, 90, 97, 122, 122)
	equals(t, "Fold", classes.Fold(ranges(91, 96)), 91, 96)
	equals(t, "Fold", classes.Fold(ranges(123, 126, 58, 64, 32, 57)), 32, 64, 123, 126)
	equals(t, "Fold", classes.Fold(ranges(122, 122, 67, 67)), 67, 67, 90, 90, 99, 99, 122, 122)
	equals(t, "Fold", classes.Fold(ranges(0xe9, 0xe9, 0x17f, 0x17f, 0x212a, 0x212a)), 0xe9, 0xe9, 0x17f, 0x17f, 0x212a, 0x212a)
}

// TestCount: P6.3, at most 2 to the power of 62, less 1.
func TestCount(t *testing.T) {
	const most = 4611686018427387903
	for _, x := range []struct {
		l    []api.Range
		want int
	}{
		{nil, 0},
		{ranges(3, 2), 0},
		{ranges(math.MaxInt, math.MinInt), 0},
		{ranges(7, 7), 1},
		{ranges(7, 7, 7, 7), 1},
		{ranges(-2, 2, 5, 6), 7},
		{ranges(math.MinInt, math.MinInt, math.MaxInt, math.MaxInt), 2},
		{ranges(1, most-1), most - 1},
		{ranges(1, most), most},
		{ranges(0, most), most},
		{ranges(0, math.MaxInt), most},
		{ranges(math.MinInt, -1), most},
		{ranges(math.MinInt, math.MaxInt), most},
		{ranges(1, most-1, most+1, most+1), most},
		{ranges(1, most-1, most+1, most+2), most},
		{ranges(-9, -9, 1, most-1), most},
		{ranges(-9, -9, 1, most-2), most - 1},
		{ranges(-9, -9, 1, most), most},
		{ranges(-9, -8, 1, math.MaxInt), most},
	} {
		if got := classes.Count(x.l); got != x.want {
			t.Errorf("Count of %v: %d, not %d", x.l, got, x.want)
		}
	}
}

// TestSame: P6.3, the same numbers, however they are told.
func TestSame(t *testing.T) {
	for _, x := range []struct {
		a, b []api.Range
		want bool
	}{
		{nil, nil, true},
		{nil, []api.Range{}, true},
		{nil, ranges(2, 1), true},
		{nil, ranges(2, 2), false},
		{ranges(1, 2, 3, 3), ranges(1, 3), true},
		{ranges(3, 3, 1, 2, 2, 3), ranges(1, 3), true},
		{ranges(1, 3), ranges(1, 4), false},
		{ranges(1, 3), ranges(0, 3), false},
		{ranges(1, 3), ranges(1, 1, 3, 3), false},
		{ranges(1, 3), ranges(1, 3, 9, 9), false},
		{ranges(-1, -1), ranges(-2, -2), false},
		{ranges(56000, 56000), nil, false},
	} {
		if classes.Same(x.a, x.b) != x.want || classes.Same(x.b, x.a) != x.want {
			t.Errorf("Same of %v and %v is not %v", x.a, x.b, x.want)
		}
	}
}

// TestWhatFollows: P6.5, how the calls hang together.
func TestWhatFollows(t *testing.T) {
	r := row(5)
	for range rounds {
		a, b := r.list(), r.list()
		for _, chars := range []bool{false, true} {
			if not := classes.Not(classes.Not(a, chars), chars); !slices.Equal(not, classes.Norm(a, chars)) {
				t.Fatalf("Not of Not of %v, %v: %v", a, chars, not)
			}
			less := classes.Norm(classes.Less(a, b), chars)
			if and := classes.And(classes.Norm(a, chars), classes.Not(b, chars)); !slices.Equal(less, and) {
				t.Fatalf("Less of %v and %v, %v: %v, not %v", a, b, chars, less, and)
			}
		}
		or, and := classes.Or(a, b), classes.And(a, b)
		if classes.Same(a, b) != slices.Equal(or, and) {
			t.Fatalf("Same of %v and %v: Or %v, And %v", a, b, or, and)
		}
		// Where one of them is at its most nothing can be told of the sum.
		if n := classes.Count(or); n < 1<<62-1 && n+classes.Count(and) != classes.Count(a)+classes.Count(b) {
			t.Fatalf("Count of Or and of And of %v and %v", a, b)
		}
	}
}

// TestOneList: P6.5 and DOC.md's Words, one list for each set: in whatever order and pieces the ranges come.
func TestOneList(t *testing.T) {
	r := row(6)
	for range rounds {
		l := r.list()
		mixed := slices.Clone(l)
		for i := range mixed {
			j := r.below(len(mixed))
			mixed[i], mixed[j] = mixed[j], mixed[i]
		}
		if x := r.number(); x < math.MaxInt && len(mixed) > 0 && mixed[0].Lo <= x && x < mixed[0].Hi {
			mixed = append(mixed, api.Range{Lo: x + 1, Hi: mixed[0].Hi})
			mixed[0].Hi = x
		}
		if a, b := classes.Or(l, nil), classes.Or(mixed, nil); !slices.Equal(a, b) {
			t.Fatalf("Or of %v: %v; of %v: %v", l, a, mixed, b)
		}
		if a, b := classes.Fold(l), classes.Fold(mixed); !slices.Equal(a, b) {
			t.Fatalf("Fold of %v: %v; of %v: %v", l, a, mixed, b)
		}
	}
}

// calls are all calls that answer a class, of two lists.
func calls() map[string]func(a, b []api.Range) []api.Range {
	return map[string]func(a, b []api.Range) []api.Range{
		"Norm": func(a, b []api.Range) []api.Range { return classes.Norm(a, true) },
		"Not":  func(a, b []api.Range) []api.Range { return classes.Not(a, true) },
		"Or":   classes.Or,
		"And":  classes.And,
		"Less": classes.Less,
		"Fold": func(a, b []api.Range) []api.Range { return classes.Fold(a) },
		"numbers": func(a, b []api.Range) []api.Range {
			classes.Right(a, false)
			classes.Has(a, 7)
			classes.Count(a)
			classes.Same(a, b)
			return nil
		},
	}
}

// TestHandedInStays: DOC.md's P3, nothing that is handed in is written into, nor what stands behind it, and no answer shares memory with it or with another answer.
func TestHandedInStays(t *testing.T) {
	for _, ends := range [][]int{{70, 80, 1, 2, 3, 3, 9, 8, 2, 5}, {1, 3, 65, 70}, {0, 255}, {}} {
		for name, call := range calls() {
			a := append(ranges(ends...), ranges(-7, -7, -9, -9)...)
			b := append(ranges(2, 3, 60, 75), ranges(-5, -5)...)
			wantA, wantB := slices.Clone(a), slices.Clone(b)
			first := call(a[:len(a)-2], b[:len(b)-1])
			if !slices.Equal(a, wantA) || !slices.Equal(b, wantB) {
				t.Fatalf("%s wrote into what it was handed: %v, %v", name, a, b)
			}
			want := slices.Clone(first)
			second := call(a[:len(a)-2], b[:len(b)-1])
			spoil(second)
			spoil(a)
			spoil(b)
			if !slices.Equal(first, want) {
				t.Fatalf("%s: an answer changed: %v, not %v", name, first, want)
			}
			spoil(first)
			if third := call(wantA[:len(a)-2], wantB[:len(b)-1]); !slices.Equal(third, want) {
				t.Fatalf("%s: a later answer changed: %v, not %v", name, third, want)
			}
		}
	}
}

// spoil writes over all of a list, its spare room too.
func spoil(l []api.Range) {
	l = l[:cap(l)]
	for i := range l {
		l[i] = api.Range{Lo: -100, Hi: -99}
	}
}

// TestManyRanges: P6.2, lists that are long, and in falling order.
func TestManyRanges(t *testing.T) {
	const n = 100000
	var l []api.Range
	for i := range n {
		l = append(l, api.Range{Lo: 3 * (n - i), Hi: 3*(n-i) + i%3})
	}
	got := classes.Or(l, l)
	if !isClass(got) || classes.Count(got) != classes.Count(l) {
		t.Error("Or of many ranges")
	}
	if and := classes.And(l, got); !slices.Equal(and, got) {
		t.Error("And of many ranges")
	}
	if less := classes.Less(l, got); len(less) != 0 {
		t.Error("Less of many ranges")
	}
}
