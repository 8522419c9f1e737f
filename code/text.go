package code

import (
	"strconv"
	"strings"

	"dredge/api"
	"dredge/sets"
)

// The words of a text that are no operation's.
const (
	headWord = "program"
	foldWord = "fold"
	endless  = "*"
	noByte   = "none"
)

const hexDigits = "0123456789abcdef"

// Text is a right program as a text.
func Text(p api.Program) (string, api.Errno) {
	if e, _ := Right(p); e != api.OK {
		return "", e
	}
	var b strings.Builder
	addLine(&b, headWords(p))
	for _, in := range p.Insts {
		addLine(&b, instWords(in))
	}
	return b.String(), api.OK
}

func addLine(b *strings.Builder, words []string) {
	b.WriteString(strings.Join(words, " "))
	b.WriteByte('\n')
}

func headWords(p api.Program) []string {
	words := []string{headWord, strconv.Itoa(p.Groups), strconv.Itoa(p.Counters)}
	if p.Fold {
		words = append(words, foldWord)
	}
	return words
}

func instWords(in api.Inst) []string {
	word, t := shape(in.Op)
	words := []string{word}
	if t.has(usesN) {
		words = append(words, strconv.Itoa(in.N))
	}
	if t.has(usesBounds) {
		words = append(words, strconv.Itoa(in.Min), boundWord(in.Max))
	}
	if t.has(usesX) {
		words = append(words, strconv.Itoa(in.X))
	}
	if t.has(usesY) {
		words = append(words, strconv.Itoa(in.Y))
	}
	if t.has(usesSet) {
		words = append(words, setWord(in.Set))
	}
	return words
}

func boundWord(most int) string {
	if most == api.Infinite {
		return endless
	}
	return strconv.Itoa(most)
}

func setWord(s api.Set) string {
	var parts []string
	for _, r := range sets.Ranges(s) {
		parts = append(parts, rangeWord(r))
	}
	if len(parts) == 0 {
		return noByte
	}
	return strings.Join(parts, ",")
}

func rangeWord(r api.Range) string {
	if r.Lo == r.Hi {
		return byteWord(r.Lo)
	}
	return byteWord(r.Lo) + "-" + byteWord(r.Hi)
}

func byteWord(b int) string {
	return string([]byte{hexDigits[b>>4], hexDigits[b&15]})
}
