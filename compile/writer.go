package compile

import (
	"slices"

	"dredge/api"
	"dredge/sets"
)

// form is what a kind of node becomes: the method that lays its instructions down.
type form func(*writer, api.Node)

// forms is what each kind of node becomes, by the kind's number.
type forms [api.NRep + 1]form

// writer lays the instructions of a program down, behind each other.
type writer struct {
	forms    forms
	refs     []int // the groups that are referred to, rising
	insts    []api.Inst
	loops    int // how many NReps are around what is being written
	counting int // how many of these have a counter
	counters int // how many there were at most
}

// writtenOut is what nodes become where turns are written out.
func writtenOut() forms {
	return forms{
		api.NEmpty: (*writer).nothing,
		api.NSet:   (*writer).oneByte,
		api.NBegin: (*writer).begin,
		api.NEnd:   (*writer).end,
		api.NCat:   (*writer).inOrder,
		api.NAlt:   (*writer).choice,
		api.NGroup: (*writer).group,
		api.NBack:  (*writer).back,
		api.NRep:   (*writer).turns,
	}
}

// counted is what they become where turns are counted.
func counted() forms {
	f := writtenOut()
	f[api.NRep] = (*writer).countedTurns
	return f
}

// turned is what they become where the line comes from behind.
func turned() forms {
	f := writtenOut()
	f[api.NBegin], f[api.NEnd] = f[api.NEnd], f[api.NBegin]
	f[api.NCat] = (*writer).fromBehind
	return f
}

func (w *writer) write(n api.Node) {
	w.forms[n.Kind](w, n)
}

// put lays an instruction down, and tells its number.
func (w *writer) put(in api.Inst) int {
	w.insts = append(w.insts, in)
	return len(w.insts) - 1
}

// next is the number that the next instruction will have.
func (w *writer) next() int {
	return len(w.insts)
}

// lead sets where an instruction leads.
func (w *writer) lead(number, x, y int) {
	w.insts[number].X, w.insts[number].Y = x, y
}

func (w *writer) nothing(api.Node) {}

func (w *writer) oneByte(n api.Node) {
	set, _ := sets.From(n.Ranges)
	w.put(api.Inst{Op: api.OpByte, Set: set})
}

func (w *writer) begin(api.Node) {
	w.put(api.Inst{Op: api.OpBegin})
}

func (w *writer) end(api.Node) {
	w.put(api.Inst{Op: api.OpEnd})
}

func (w *writer) inOrder(n api.Node) {
	for _, kid := range n.Kids {
		w.write(kid)
	}
}

func (w *writer) fromBehind(n api.Node) {
	for _, kid := range slices.Backward(n.Kids) {
		w.write(kid)
	}
}

func (w *writer) choice(n api.Node) {
	last := len(n.Kids) - 1
	var jumps []int
	for _, kid := range n.Kids[:last] {
		split := w.put(api.Inst{Op: api.OpSplit})
		w.write(kid)
		jumps = append(jumps, w.put(api.Inst{Op: api.OpJump}))
		w.lead(split, split+1, w.next())
	}
	w.write(n.Kids[last])
	for _, jump := range jumps {
		w.lead(jump, w.next(), 0)
	}
}

// group keeps the part of a group that is referred to; of others nobody asks.
func (w *writer) group(n api.Node) {
	number, referred := slices.BinarySearch(w.refs, n.N)
	if !referred {
		w.write(n.Kids[0])
		return
	}
	w.put(api.Inst{Op: api.OpOpen, N: number})
	if w.loops > 0 {
		// The part of an earlier turn is asked for nowhere within the group: given up here, it does not tell configurations apart that go on alike.
		w.put(api.Inst{Op: api.OpClose, N: number})
	}
	w.write(n.Kids[0])
	w.put(api.Inst{Op: api.OpClose, N: number})
}

func (w *writer) back(n api.Node) {
	number, _ := slices.BinarySearch(w.refs, n.N)
	w.put(api.Inst{Op: api.OpBack, N: number})
}
