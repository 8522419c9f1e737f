package lexer

import (
	"strings"

	"dredge/api"
	"dredge/classes"
)

// brackets reads a bracket and all up to its end.
func (r *reader) brackets() api.Token {
	open := r.at
	r.at++
	turned := r.skips("^")
	// What stands first is an item, whatever it is.
	l := r.single(open)
	for !r.skips("]") {
		l = append(l, r.item(open)...)
	}
	return r.set(l, turned)
}

// item reads an item that is not the first one of the brackets that began at open. A - that a range could begin with has been read with it: one that is seen here is the last item, or may not be.
func (r *reader) item(open int) []api.Range {
	if !r.sees("-") || r.sees("-]") {
		return r.single(open)
	}
	if r.at+1 == len(r.pattern) {
		panic(wrong(api.ErrBracket, open))
	}
	panic(wrong(api.ErrRange, r.at))
}

// single reads an item; a ] or - is a character here.
func (r *reader) single(open int) []api.Range {
	switch {
	case r.sees("[:"):
		return r.named(open)
	case r.sees("[="):
		return one(r.element(open))
	}
	return r.span(open)
}

// span reads an END, or a range.
func (r *reader) span(open int) []api.Range {
	from := r.at
	lo := r.end(open)
	if r.sees("-]") || !r.skips("-") {
		return one(lo)
	}
	// These two bytes are enough: whether such an item has its end is not asked.
	if r.sees("[:") || r.sees("[=") {
		panic(wrong(api.ErrRange, from))
	}
	hi := r.end(open)
	if hi < lo {
		panic(wrong(api.ErrRange, from))
	}
	return []api.Range{{Lo: lo, Hi: hi}}
}

// end reads an END.
func (r *reader) end(open int) int {
	if r.at == len(r.pattern) {
		panic(wrong(api.ErrBracket, open))
	}
	if r.sees("[.") {
		return r.element(open)
	}
	return r.character()
}

// named reads an item [: .. :].
func (r *reader) named(open int) []api.Range {
	at := r.at
	l, ok := classes.Named(r.within(open, 0))
	if !ok {
		panic(wrong(api.ErrClass, at))
	}
	return l
}

// element reads an item [= .. =] or [. .. .].
func (r *reader) element(open int) int {
	at := r.at
	text := r.within(open, 1)
	c, n := unit(text, r.mode)
	if c < 0 || n < len(text) {
		panic(wrong(api.ErrClass, at))
	}
	return c
}

// within reads an item that begins with two bytes and ends with the second of them and a ], and is what stands between: so many bytes at least, even if they look like the item's end.
func (r *reader) within(open, least int) string {
	mark := r.pattern[r.at+1 : r.at+2]
	rest := r.pattern[r.at+2:]
	skipped := min(least, len(rest))
	n := strings.Index(rest[skipped:], mark+"]")
	if n < 0 {
		panic(wrong(api.ErrBracket, open))
	}
	text := rest[:skipped+n]
	r.at += 2 + len(text) + 2
	return text
}
