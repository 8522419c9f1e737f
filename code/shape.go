package code

import "dredge/api"

// traits is which fields of its instruction an operation uses, and whether it leads to the next instruction.
type traits int

const (
	usesSet     traits = 1 << iota
	usesX              // where it goes on
	usesY              // where else it goes on
	usesGroup          // N, a group's number
	usesCounter        // N, a counter's number
	usesBounds         // Min and Max
	leadsOn            // to the next instruction

	usesN = usesGroup | usesCounter
)

// has tells whether there is one of some traits.
func (t traits) has(some traits) bool {
	return t&some != 0
}

// shape is an operation's word in a text, and its traits. Of what is no operation there is no word.
func shape(op int) (string, traits) {
	switch op {
	case api.OpByte:
		return "byte", usesSet | leadsOn
	case api.OpSplit:
		return "split", usesX | usesY
	case api.OpJump:
		return "jump", usesX
	case api.OpBegin:
		return "begin", leadsOn
	case api.OpEnd:
		return "end", leadsOn
	case api.OpOpen:
		return "open", usesGroup | leadsOn
	case api.OpClose:
		return "close", usesGroup | leadsOn
	case api.OpBack:
		return "back", usesGroup | leadsOn
	case api.OpZero:
		return "zero", usesCounter | leadsOn
	case api.OpTurn:
		return "turn", usesCounter | usesBounds | usesX | usesY
	case api.OpMatch:
		return "match", 0
	}
	return "", 0
}

// operation is the operation that has a word.
func operation(word string) (int, bool) {
	for op := api.OpByte; op <= api.OpMatch; op++ {
		if own, _ := shape(op); own == word {
			return op, true
		}
	}
	return 0, false
}

// used is an instruction with noughts in the fields that are not used.
func (t traits) used(in api.Inst) api.Inst {
	u := api.Inst{Op: in.Op}
	if t.has(usesSet) {
		u.Set = in.Set
	}
	if t.has(usesX) {
		u.X = in.X
	}
	if t.has(usesY) {
		u.Y = in.Y
	}
	if t.has(usesN) {
		u.N = in.N
	}
	if t.has(usesBounds) {
		u.Min, u.Max = in.Min, in.Max
	}
	return u
}
