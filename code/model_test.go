package code_test

import (
	"fmt"
	"regexp"
	"slices"
	"strconv"
	"strings"

	"dredge/api"
)

// The model: the chapter's table as rows of words, a text's lines held against one expression each.

// row is a row of the chapter's table.
type row struct {
	x, y, group, counter, bounds, set, next bool
}

// rows is the table; the operations are numbered from 1 on.
var rows = []row{
	{},
	{set: true, next: true},
	{x: true, y: true},
	{x: true},
	{next: true},
	{next: true},
	{group: true, next: true},
	{group: true, next: true},
	{group: true, next: true},
	{counter: true, next: true},
	{counter: true, bounds: true, x: true, y: true},
	{},
}

func leadsToNext(op int) bool { return rows[op].next }

// modelRight is P14.1, word by word.
func modelRight(p api.Program) (api.Errno, int) {
	if len(p.Insts) > 40000 {
		return api.ErrMany, 0
	}
	if p.Groups < 0 || p.Groups > 30 || p.Counters < 0 || p.Counters > 40 {
		return api.ErrArg, 0
	}
	for i := range p.Insts {
		if modelWrong(p, i) {
			return api.ErrCode, i
		}
	}
	if len(p.Insts) == 0 {
		return api.ErrCode, 0
	}
	return api.OK, 0
}

func modelWrong(p api.Program, i int) bool {
	in := p.Insts[i]
	if in.Op < 1 || in.Op > 11 {
		return true
	}
	r := rows[in.Op]
	numbered := func(used bool, n, count int) bool { return used && n >= 0 && n < count || !used && n == 0 }
	if !numbered(r.x, in.X, len(p.Insts)) || !numbered(r.y, in.Y, len(p.Insts)) {
		return true
	}
	if r.group && !numbered(true, in.N, p.Groups) || r.counter && !numbered(true, in.N, p.Counters) || !r.group && !r.counter && in.N != 0 {
		return true
	}
	if !r.bounds && (in.Min != 0 || in.Max != 0) || !r.set && in.Set != (api.Set{}) {
		return true
	}
	if r.bounds && (in.Min < 0 || in.Min > 255 || in.Max != -1 && (in.Max < in.Min || in.Max > 255)) {
		return true
	}
	return r.next && i == len(p.Insts)-1
}

// modelReach is P14.5: those that have been come to are looked at again and again, till there are no more.
func modelReach(p api.Program) []int {
	come := make([]bool, len(p.Insts))
	come[0] = true
	for more := true; more; {
		more = false
		for i, in := range p.Insts {
			for _, to := range modelLeads(in, i) {
				if come[i] && !come[to] {
					come[to], more = true, true
				}
			}
		}
	}
	var l []int
	for i, is := range come {
		if is {
			l = append(l, i)
		}
	}
	return l
}

func modelLeads(in api.Inst, at int) []int {
	switch r := rows[in.Op]; {
	case r.next:
		return []int{at + 1}
	case r.y:
		return []int{in.X, in.Y}
	case r.x:
		return []int{in.X}
	}
	return nil
}

// modelText is P14.3, a form for each operation.
func modelText(p api.Program) string {
	s := fmt.Sprintf("program %d %d", p.Groups, p.Counters)
	if p.Fold {
		s += " fold"
	}
	for _, in := range p.Insts {
		s += "\n" + modelLine(in)
	}
	return s + "\n"
}

func modelLine(in api.Inst) string {
	switch in.Op {
	case api.OpByte:
		return "byte " + modelSet(in.Set)
	case api.OpSplit:
		return fmt.Sprintf("split %d %d", in.X, in.Y)
	case api.OpJump:
		return fmt.Sprintf("jump %d", in.X)
	case api.OpOpen, api.OpClose, api.OpBack, api.OpZero:
		return fmt.Sprintf("%s %d", map[int]string{6: "open", 7: "close", 8: "back", 9: "zero"}[in.Op], in.N)
	case api.OpTurn:
		return fmt.Sprintf("turn %d %d %s %d %d", in.N, in.Min, strings.Replace(strconv.Itoa(in.Max), "-1", "*", 1), in.X, in.Y)
	}
	return map[int]string{4: "begin", 5: "end", 11: "match"}[in.Op]
}

// modelSet tells a set by its bytes, one by one.
func modelSet(s api.Set) string {
	in := func(b int) bool { return b >= 0 && b <= 255 && s[b/64]>>(b%64)&1 == 1 }
	text := ""
	for b := range 256 {
		switch {
		case !in(b):
		case !in(b - 1):
			text += fmt.Sprintf(",%02x", b)
		case !in(b + 1):
			text += fmt.Sprintf("-%02x", b)
		}
	}
	if text == "" {
		return "none"
	}
	return text[1:]
}

const (
	number = ` (0|[1-9][0-9]{0,5})`
	bound  = ` (0|[1-9][0-9]{0,5}|\*)`
	hexes  = `[0-9a-f]{2}(?:-[0-9a-f]{2})?`
)

var (
	first = regexp.MustCompile(`^program` + number + number + `( fold)?\n$`)
	forms = []*regexp.Regexp{
		1:  regexp.MustCompile(`^byte (none|` + hexes + `(?:,` + hexes + `)*)\n$`),
		2:  regexp.MustCompile(`^split` + number + number + `\n$`),
		3:  regexp.MustCompile(`^jump` + number + `\n$`),
		4:  regexp.MustCompile(`^begin\n$`),
		5:  regexp.MustCompile(`^end\n$`),
		6:  regexp.MustCompile(`^open` + number + `\n$`),
		7:  regexp.MustCompile(`^close` + number + `\n$`),
		8:  regexp.MustCompile(`^back` + number + `\n$`),
		9:  regexp.MustCompile(`^zero` + number + `\n$`),
		10: regexp.MustCompile(`^turn` + number + number + bound + number + number + `\n$`),
		11: regexp.MustCompile(`^match\n$`),
	}
)

// modelRead is P14.4: the program, or what is wrong.
func modelRead(s string) (api.Program, *api.Bad) {
	lines := strings.SplitAfter(s, "\n")
	if last := len(lines) - 1; last > 0 && lines[last] == "" {
		lines = lines[:last]
	}
	found := first.FindStringSubmatch(lines[0])
	if found == nil {
		return api.Program{}, &api.Bad{Code: api.ErrText}
	}
	p := api.Program{Groups: valueOf(found[1]), Counters: valueOf(found[2]), Fold: found[3] != ""}
	places := []int{len(lines[0])}
	for i, text := range lines[1:] {
		in, ok := modelInst(text)
		if !ok {
			return api.Program{}, &api.Bad{Code: api.ErrText, At: places[i]}
		}
		p.Insts = append(p.Insts, in)
		places = append(places, places[i]+len(text))
	}
	switch e, at := modelRight(p); {
	case e == api.OK:
		return p, nil
	case e == api.ErrCode && len(p.Insts) > 0:
		return api.Program{}, &api.Bad{Code: e, At: places[at]}
	default:
		return api.Program{}, &api.Bad{Code: e}
	}
}

func modelInst(text string) (api.Inst, bool) {
	for op := 1; op <= 11; op++ {
		found := forms[op].FindStringSubmatch(text)
		if found == nil {
			continue
		}
		in := api.Inst{Op: op}
		switch op {
		case 1:
			set, ok := modelSetOf(found[1])
			return api.Inst{Op: op, Set: set}, ok
		case 2:
			in.X, in.Y = valueOf(found[1]), valueOf(found[2])
		case 3:
			in.X = valueOf(found[1])
		case 6, 7, 8, 9:
			in.N = valueOf(found[1])
		case 10:
			in.N, in.Min, in.Max, in.X, in.Y = valueOf(found[1]), valueOf(found[2]), valueOf(found[3]), valueOf(found[4]), valueOf(found[5])
		}
		return in, true
	}
	return api.Inst{}, false
}

// modelSetOf is the set of a list of ranges, if these rise with a byte between each two.
func modelSetOf(word string) (api.Set, bool) {
	var s api.Set
	if word == "none" {
		return s, true
	}
	free := 0 // the least byte with which the next range may begin
	for _, part := range strings.Split(word, ",") {
		ends := []int{}
		for _, hex := range strings.Split(part, "-") {
			b, _ := strconv.ParseInt(hex, 16, 0)
			ends = append(ends, int(b))
		}
		last := ends[len(ends)-1]
		if ends[0] < free || !slices.IsSorted(ends) || len(ends) == 2 && ends[0] == ends[1] {
			return api.Set{}, false
		}
		s = or(s, span(ends[0], last))
		free = last + 2
	}
	return s, true
}

func valueOf(word string) int {
	if word == "*" {
		return -1
	}
	n, _ := strconv.Atoi(word)
	return n
}
