package code

import (
	"strconv"
	"strings"

	"dredge/api"
	"dredge/sets"
)

// The digits that a number has at most: more are no form, whatever they would mean.
const maxDigits = 6

// Read is the program of a text; an error is a *api.Bad.
func Read(s string) (p api.Program, err error) {
	// That a line has none of the forms shows deep inside, in one of its words: it is panicked with, and comes out here.
	defer func() {
		if x := recover(); x != nil {
			p, err = api.Program{}, x.(*api.Bad)
		}
	}()
	r := reader{rest: s}
	p = r.program()
	if e, at := Right(p); e != api.OK {
		return api.Program{}, &api.Bad{Code: e, At: r.placeOf(e, at)}
	}
	return p, nil
}

// reader reads a text from the front, a line at a time.
type reader struct {
	rest   string
	at     int   // what has not been read begins here
	begins []int // where the instructions' lines begin
}

// program reads all lines. Right sees too many instructions by one of these: those behind it are not kept, as there may be very many, but a line that has no form is told ahead of that.
func (r *reader) program() api.Program {
	p := r.line().head()
	for r.rest != "" {
		l := r.line()
		in := l.inst()
		if len(p.Insts) <= api.MaxCode {
			p.Insts = append(p.Insts, in)
			r.begins = append(r.begins, l.at)
		}
	}
	return p
}

// placeOf is where an error of Right shows in the text.
func (r *reader) placeOf(e api.Errno, at int) int {
	if e != api.ErrCode || len(r.begins) == 0 {
		return 0
	}
	return r.begins[at]
}

// line reads the next line.
func (r *reader) line() *line {
	text, rest, ended := strings.Cut(r.rest, "\n")
	l := &line{rest: text, more: true, at: r.at}
	if !ended {
		l.giveUp()
	}
	r.rest = rest
	r.at += len(text) + 1
	return l
}

// line is a line, read from the front, a word at a time.
type line struct {
	rest string
	more bool // is there another word, maybe one without bytes?
	at   int  // where the line begins
}

func (l *line) giveUp() {
	panic(&api.Bad{Code: api.ErrText, At: l.at})
}

func (l *line) word() string {
	if !l.more {
		l.giveUp()
	}
	var word string
	word, l.rest, l.more = strings.Cut(l.rest, " ")
	return word
}

func (l *line) end() {
	if l.more {
		l.giveUp()
	}
}

// head reads the first line: a program without instructions.
func (l *line) head() api.Program {
	if l.word() != headWord {
		l.giveUp()
	}
	var p api.Program
	p.Groups = l.number()
	p.Counters = l.number()
	if l.more {
		p.Fold = true
		if l.word() != foldWord {
			l.giveUp()
		}
	}
	l.end()
	return p
}

func (l *line) inst() api.Inst {
	op, ok := operation(l.word())
	if !ok {
		l.giveUp()
	}
	_, t := shape(op)
	in := api.Inst{Op: op}
	if t.has(usesN) {
		in.N = l.number()
	}
	if t.has(usesBounds) {
		in.Min = l.number()
		in.Max = l.bound()
	}
	if t.has(usesX) {
		in.X = l.number()
	}
	if t.has(usesY) {
		in.Y = l.number()
	}
	if t.has(usesSet) {
		in.Set = l.set()
	}
	l.end()
	return in
}

func (l *line) number() int {
	return l.numberOf(l.word())
}

// bound reads an upper bound, which alone may be endless.
func (l *line) bound() int {
	word := l.word()
	if word == endless {
		return api.Infinite
	}
	return l.numberOf(word)
}

// numberOf reads a number; noughts and signs ahead are refused, since it would not be written so.
func (l *line) numberOf(word string) int {
	if len(word) > maxDigits {
		l.giveUp()
	}
	n, err := strconv.Atoi(word)
	if err != nil || n < 0 || strconv.Itoa(n) != word {
		l.giveUp()
	}
	return n
}

// set reads a set of bytes. Ranges in another order, ranges that touch and the like are all refused at once, since the set would not be written so.
func (l *line) set() api.Set {
	word := l.word()
	var s api.Set
	for rest, more := word, word != noByte; more; {
		var part string
		part, rest, more = strings.Cut(rest, ",")
		s = sets.Or(s, l.rangeOf(part))
	}
	if setWord(s) != word {
		l.giveUp()
	}
	return s
}

// rangeOf reads the bytes from one to another, or a single one.
func (l *line) rangeOf(part string) api.Set {
	lo, hi, two := strings.Cut(part, "-")
	if !two {
		hi = lo
	}
	s, e := sets.Range(l.byteOf(lo), l.byteOf(hi))
	if e != api.OK {
		l.giveUp()
	}
	return s
}

func (l *line) byteOf(word string) int {
	b, err := strconv.ParseUint(word, 16, 8)
	if err != nil {
		l.giveUp()
	}
	return int(b)
}
