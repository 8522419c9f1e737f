package chars

import (
	"unicode/utf8"

	"dredge/api"
)

// spans are the characters by how many bytes they have; those of three bytes have numbers among them that are none.
var spans = [...]api.Range{{Lo: 0, Hi: 0x7f}, {Lo: 0x80, Hi: 0x7ff}, {Lo: 0x800, Hi: 0xd7ff}, {Lo: 0xe000, Hi: 0xffff}, {Lo: 0x10000, Hi: last}}

// Rows are rows of ranges of bytes, whose texts are just the characters from lo to hi.
func Rows(lo, hi int) ([][]api.Range, api.Errno) {
	if lo < 0 || hi > last || lo > hi {
		return nil, api.ErrArg
	}
	var rows [][]api.Range
	for _, x := range spans {
		rows = addRows(rows, max(lo, x.Lo), min(hi, x.Hi))
	}
	return rows, api.OK
}

// addRows adds the rows of the characters from lo to hi, which all have as many bytes.
func addRows(rows [][]api.Range, lo, hi int) [][]api.Range {
	if lo > hi {
		return rows
	}
	if cut := cutAt(lo, hi); cut < hi {
		return addRows(addRows(rows, lo, cut), cut+1, hi)
	}
	return append(rows, rowOf(lo, hi))
}

// cutAt is the last character of the first part, where lo to hi must be cut: a row may go through several values of a byte only if it has all values of the bytes behind it. It is hi, if lo to hi is a row.
func cutAt(lo, hi int) int {
	// Each byte but the first one has six bits of the character.
	for i := 1; i < utf8.RuneLen(rune(lo)); i++ {
		low := 1<<(6*i) - 1
		if lo|low == hi|low {
			return hi
		}
		if lo&low != 0 {
			return lo | low
		}
		if hi&low != low {
			return hi&^low - 1
		}
	}
	return hi
}

// rowOf is the row from each byte of lo to that of hi.
func rowOf(lo, hi int) []api.Range {
	from, to := string(rune(lo)), string(rune(hi))
	row := make([]api.Range, len(from))
	for i := range row {
		row[i] = api.Range{Lo: int(from[i]), Hi: int(to[i])}
	}
	return row
}
