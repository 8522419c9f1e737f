package compare

// merged is an automaton of the same language in which one state stands for all those from which the same lines lead into the language.
func (a automaton) merged() automaton {
	class, count := a.classes()
	m := automaton{kinds: a.kinds, in: make([]bool, count), moves: make([][]int, count)}
	for state, moves := range a.moves {
		c := class[state]
		if m.moves[c] != nil {
			continue
		}
		m.in[c] = a.in[state]
		for _, next := range moves {
			m.moves[c] = append(m.moves[c], class[next])
		}
	}
	return m
}

// classes is the class of each state, and how many there are. They are numbered by the first state of each: so that of the empty line is the first one.
func (a automaton) classes() ([]int, int) {
	p := a.told()
	numbers := make([]int, len(p.parts))
	class, count := make([]int, len(a.in)), 0
	for state, part := range p.of {
		if numbers[part] == 0 {
			count++
			numbers[part] = count
		}
		class[state] = numbers[part] - 1
	}
	return class, count
}

// told is the states in parts, told apart as far as lines tell them apart. Each part that comes up tells apart the states that lead to it from those that do not, kind by kind; of two halves of a part that has done so one is enough, and the smaller one is taken.
func (a automaton) told() *division {
	p := undivided(len(a.in))
	for state, in := range a.in {
		if in {
			p.mark(state)
		}
	}
	waiting := p.divide(nil)
	incoming := a.incoming()
	for len(waiting) > 0 {
		part := waiting[len(waiting)-1]
		waiting = waiting[:len(waiting)-1]
		byKind := make([][]int, len(a.kinds.readers))
		for _, state := range p.states(part) {
			for _, i := range incoming[state] {
				byKind[i.kind] = append(byKind[i.kind], i.from)
			}
		}
		for _, from := range byKind {
			for _, state := range from {
				p.mark(state)
			}
			waiting = p.divide(waiting)
		}
	}
	return p
}

// entry is that a state is led to: by a kind, from a state.
type entry struct{ kind, from int }

func (a automaton) incoming() [][]entry {
	l := make([][]entry, len(a.in))
	for state, moves := range a.moves {
		for kind, next := range moves {
			l[next] = append(l[next], entry{kind, state})
		}
	}
	return l
}

// part is where the states of a part stand: from, up to below to; so many of the first ones are marked.
type part struct{ from, to, marked int }

// division is states in parts.
type division struct {
	order   []int // all states, those of a part side by side
	at      []int // where a state stands in order
	of      []int // its part
	parts   []part
	touched []int // the parts that have marked states
}

func undivided(states int) *division {
	p := &division{of: make([]int, states), parts: []part{{to: states}}}
	for state := range states {
		p.order = append(p.order, state)
		p.at = append(p.at, state)
	}
	return p
}

func (p *division) states(number int) []int {
	return p.order[p.parts[number].from:p.parts[number].to]
}

// mark marks a state that is not marked.
func (p *division) mark(state int) {
	number := p.of[state]
	front := p.parts[number].from + p.parts[number].marked
	first, at := p.order[front], p.at[state]
	p.order[front], p.order[at] = state, first
	p.at[state], p.at[first] = front, at
	if p.parts[number].marked == 0 {
		p.touched = append(p.touched, number)
	}
	p.parts[number].marked++
}

// divide takes the marked states of each part from the others of it: the fewer ones are a new part, which is appended to a list. No state is marked behind that.
func (p *division) divide(numbers []int) []int {
	for _, number := range p.touched {
		whole := p.parts[number]
		p.parts[number].marked = 0
		middle := whole.from + whole.marked
		if middle == whole.to {
			continue
		}
		taken := part{from: whole.from, to: middle}
		if whole.marked > whole.to-middle {
			taken = part{from: middle, to: whole.to}
			p.parts[number].to = middle
		} else {
			p.parts[number].from = middle
		}
		for _, state := range p.order[taken.from:taken.to] {
			p.of[state] = len(p.parts)
		}
		numbers = append(numbers, len(p.parts))
		p.parts = append(p.parts, taken)
	}
	p.touched = p.touched[:0]
	return numbers
}
