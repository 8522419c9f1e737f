package compile

import (
	"slices"
	"unicode/utf8"

	"dredge/api"
	"dredge/chars"
	"dredge/sets"
	"dredge/tree"
)

// spelled is a tree in memory of its own in which bytes stand for characters. (As a tree of bytes it need not be right.)
func spelled(n api.Node) api.Node {
	if n.Kind == api.NSet {
		return texts(n.Ranges)
	}
	n.Kids = slices.Clone(n.Kids)
	for i, kid := range n.Kids {
		n.Kids[i] = spelled(kid)
	}
	return n
}

// texts is the bytes of the characters of a class.
func texts(class []api.Range) api.Node {
	rows := rowsOf(class)
	for at := utf8.UTFMax - 1; at >= 0; at-- {
		rows = joined(rows, at)
	}
	var l []api.Node
	for _, r := range rows {
		l = append(l, r.text())
	}
	return tree.Alt(l...)
}

// row is a set of bytes for each byte of some texts that have as many; behind their end it has no byte.
type row [utf8.UTFMax]api.Set

func rowsOf(class []api.Range) []row {
	var l []row
	for _, part := range class {
		rows, _ := chars.Rows(part.Lo, part.Hi)
		for _, ranges := range rows {
			var r row
			for i, b := range ranges {
				r[i], _ = sets.Range(b.Lo, b.Hi)
			}
			l = append(l, r)
		}
	}
	return l
}

// joined has as one row those that differ in one byte of their texts alone. (Where the first bytes are alike the texts are as long: none ends where another one goes on.)
func joined(rows []row, at int) []row {
	var l []row
	numbers := map[row]int{}
	for _, r := range rows {
		rest := r
		rest[at] = api.Set{}
		if number, known := numbers[rest]; known {
			l[number][at] = sets.Or(l[number][at], r[at])
			continue
		}
		numbers[rest] = len(l)
		l = append(l, r)
	}
	return l
}

func (r row) text() api.Node {
	var l []api.Node
	for _, set := range r {
		if set != (api.Set{}) {
			l = append(l, api.Node{Kind: api.NSet, Ranges: sets.Ranges(set)})
		}
	}
	return tree.Cat(l...)
}
