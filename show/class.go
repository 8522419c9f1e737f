package show

import (
	"dredge/api"
	"dredge/classes"
)

// Class is a class as a pattern.
func Class(l []api.Range, mode api.Mode) (string, api.Errno) {
	if !classes.Right(l, mode.Chars) {
		return "", api.ErrTree
	}
	return written(class(l, mode), mode), api.OK
}

// class is the runes of a class of the mode.
func class(l []api.Range, mode api.Mode) []rune {
	all := classes.Not(nil, mode.Chars)
	switch {
	case len(l) == 0:
		return brackets([]rune{'[', '^'}, all)
	case classes.Same(l, all):
		return []rune{'.'}
	case len(l) == 1 && l[0].Lo == l[0].Hi:
		return alone(rune(l[0].Lo))
	}
	return brackets([]rune{'['}, l)
}

// alone is a character outside brackets.
func alone(c rune) []rune {
	switch c {
	case '.', '[', '*', '^', '$', '\\':
		return []rune{'\\', c}
	}
	return []rune{c}
}

// brackets is ranges in brackets, which have been opened.
func brackets(text []rune, l []api.Range) []rune {
	for _, r := range l {
		text = addEnd(text, rune(r.Lo))
		if r.Hi > r.Lo {
			text = addEnd(append(text, '-'), rune(r.Hi))
		}
	}
	return append(text, ']')
}

// addEnd adds a range's first or last character. What could be taken for a part of the brackets themselves is set apart.
func addEnd(text []rune, c rune) []rune {
	switch c {
	case ']', '[', '-', '^':
		return append(text, '[', '.', c, '.', ']')
	}
	return append(text, c)
}

// written is runes as the mode's bytes.
func written(text []rune, mode api.Mode) string {
	if mode.Chars {
		return string(text)
	}
	raw := make([]byte, len(text))
	for i, c := range text {
		raw[i] = byte(c)
	}
	return string(raw)
}
