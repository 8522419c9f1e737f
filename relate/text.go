package relate

import (
	"slices"
	"strings"

	"dredge/api"
	"dredge/chars"
)

// text is a line as a mode reads it. Bytes of it are alike, if those of folded are the same.
type text struct {
	line, folded string
	chars        bool
}

func textOf(line string, mode api.Mode) text {
	t := text{line: line, folded: line, chars: mode.Chars}
	if mode.Fold {
		t.folded = folded(line)
	}
	return t
}

// folded is a line with small letters for the great ones, A to Z alone, and all other bytes as they are.
func folded(line string) string {
	l := []byte(line)
	for i, b := range l {
		if b >= 'A' && b <= 'Z' {
			l[i] = b - 'A' + 'a'
		}
	}
	return string(l)
}

// places are the line's.
func (t text) places() []int {
	if t.chars {
		return chars.Places(t.line)
	}
	l := make([]int, len(t.line)+1)
	for i := range l {
		l[i] = i
	}
	return l
}

func (t text) isPlace(at int) bool {
	if at < 0 || at > len(t.line) {
		return false
	}
	if !t.chars {
		return true
	}
	_, is := slices.BinarySearch(chars.Places(t.line), at)
	return is
}

// unit is the character at a place, or -1, if it is none, and how many bytes it has; of the line's end no bytes.
func (t text) unit(at int) (int, int) {
	if t.chars || at == len(t.line) {
		return chars.Next(t.line, at)
	}
	return int(t.line[at]), 1
}

// leaf is where a node without Kids leads to from a place, if it leads anywhere; group tells the part of one, if it is set.
func (t text) leaf(n api.Node, at int, group func(number int) (api.Span, bool)) (int, bool) {
	switch n.Kind {
	case api.NSet:
		c, bytes := t.unit(at)
		return at + bytes, bytes > 0 && has(n.Ranges, c)
	case api.NBegin:
		return at, at == 0
	case api.NEnd:
		return at, at == len(t.line)
	case api.NBack:
		p, is := group(n.N)
		return at + p.To - p.From, is && strings.HasPrefix(t.folded[at:], t.folded[p.From:p.To])
	}
	return at, true
}

// has tells whether a class has a number. It halves the class: of a line and a class both long each byte asks it.
func has(class []api.Range, c int) bool {
	_, is := slices.BinarySearchFunc(class, c, func(r api.Range, c int) int {
		switch {
		case r.Hi < c:
			return -1
		case r.Lo > c:
			return 1
		}
		return 0
	})
	return is
}
