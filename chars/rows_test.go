package chars_test

import (
	"math"
	"slices"
	"testing"

	"dredge/api"
	"dredge/chars"
)

// textsOf tells each text of a row.
func textsOf(row []api.Range, tell func(string) bool) bool {
	text := make([]byte, len(row))
	var from func(i int) bool
	from = func(i int) bool {
		if i == len(row) {
			return tell(string(text))
		}
		for b := row[i].Lo; b <= row[i].Hi; b++ {
			text[i] = byte(b)
			if !from(i + 1) {
				return false
			}
		}
		return true
	}
	return from(0)
}

// rowsHold goes through all texts of the rows: each is a character from lo to hi, none is told twice, and none is missing.
func rowsHold(t *testing.T, lo, hi int) {
	t.Helper()
	l, e := chars.Rows(lo, hi)
	if e != api.OK || len(l) > 30 {
		t.Fatalf("Rows(%d, %d): %d rows, %v", lo, hi, len(l), e)
	}
	seen := make([]bool, hi-lo+1)
	for _, row := range l {
		rowIsOne(t, row)
		textsOf(row, func(s string) bool {
			c, n := unitOf(s)
			if c < lo || c > hi || n != len(s) || seen[c-lo] {
				t.Errorf("Rows(%d, %d): %x is in %v", lo, hi, s, row)
				return false
			}
			seen[c-lo] = true
			return true
		})
	}
	for i, ok := range seen {
		if want := bytesOf(lo+i) != ""; ok != want {
			t.Fatalf("Rows(%d, %d): the character %d: %v", lo, hi, lo+i, ok)
		}
	}
}

func rowIsOne(t *testing.T, row []api.Range) {
	t.Helper()
	if len(row) < 1 || len(row) > 4 {
		t.Errorf("a row of %d ranges", len(row))
	}
	for _, x := range row {
		if x.Lo < 0 || x.Hi > 255 || x.Lo > x.Hi {
			t.Errorf("a row with the range %v", x)
		}
	}
}

// TestRowsOfExamples: P5.3, the chapter's examples.
func TestRowsOfExamples(t *testing.T) {
	for _, x := range []struct {
		lo, hi int
		want   [][]api.Range
	}{
		{0, 127, [][]api.Range{{{Lo: 0, Hi: 127}}}},
		{128, 2047, [][]api.Range{{{Lo: 194, Hi: 223}, {Lo: 128, Hi: 191}}}},
		{55296, 57343, nil},
		{56000, 56000, nil},
	} {
		if l, e := chars.Rows(x.lo, x.hi); e != api.OK || !slices.EqualFunc(l, x.want, slices.Equal[[]api.Range]) {
			t.Errorf("Rows(%d, %d): %v, %v", x.lo, x.hi, l, e)
		}
	}
}

// TestRowsOfWrong: P5.3, what is refused.
func TestRowsOfWrong(t *testing.T) {
	for _, x := range [][2]int{{-1, 5}, {math.MinInt, 5}, {-5, -1}, {0, last + 1}, {0, math.MaxInt}, {last + 1, last + 1}, {1, 0}, {last, last - 1}, {57343, 55296}, {math.MaxInt, math.MinInt}} {
		if l, e := chars.Rows(x[0], x[1]); e != api.ErrArg || len(l) != 0 {
			t.Errorf("Rows(%d, %d): %v, %v", x[0], x[1], l, e)
		}
	}
}

// TestRowsNear: P5.3, each edge as a beginning and as an end, with what is near it.
func TestRowsNear(t *testing.T) {
	for _, c := range append(edges(), 55296, 57343) {
		for _, length := range []int{0, 1, 2, 62, 63, 64, 65, 130, 4100} {
			if c+length <= last {
				rowsHold(t, c, c+length)
			}
			if c-length >= 0 {
				rowsHold(t, c-length, c)
			}
		}
	}
}

// TestRowsFar: P5.3, great parts, and all of them.
func TestRowsFar(t *testing.T) {
	rowsHold(t, 0, last)
	l := rows(60, last+1)
	for i := 0; i < len(l); i += 2 {
		rowsHold(t, min(l[i], l[i+1]), max(l[i], l[i+1]))
	}
	for _, x := range [][2]int{{1, last - 1}, {0x801, last - 1}, {0x10041, last - 0x1041}, {0x7f, 0x10000}, {0x1001, 0xfffe}, {55295, 57344}} {
		rowsHold(t, x[0], x[1])
	}
}

// TestRowsSame: P5.3, the same bounds give the same rows, in new memory: no two rows share any.
func TestRowsSame(t *testing.T) {
	for _, x := range [][2]int{{0, last}, {1, 70000}, {0x801, 0x10fffe}} {
		first, _ := chars.Rows(x[0], x[1])
		again, _ := chars.Rows(x[0], x[1])
		if !slices.EqualFunc(first, again, slices.Equal[[]api.Range]) {
			t.Errorf("Rows(%d, %d): %v, then %v", x[0], x[1], first, again)
		}
		for i, row := range first {
			for j := range row[:cap(row)] {
				row[:cap(row)][j] = api.Range{Lo: -1 - i, Hi: -1 - i}
			}
		}
		for i, row := range first {
			for _, y := range row {
				if y.Lo != -1-i {
					t.Errorf("Rows(%d, %d): the row %d shares memory with another one", x[0], x[1], i)
				}
			}
		}
		if later, _ := chars.Rows(x[0], x[1]); !slices.EqualFunc(later, again, slices.Equal[[]api.Range]) {
			t.Errorf("Rows(%d, %d) changed: %v", x[0], x[1], later)
		}
	}
}
