package dfa

import "iter"

// matched goes over the places of a line up to which the program matches: from a place on; if it begins anew, from any place behind that, too.
func (d *DFA) matched(line string, at int, anew bool) iter.Seq[int] {
	return func(yield func(int) bool) {
		number := d.start(way{anew: anew, first: at == 0})
		for place := at; ; place++ {
			now, last := d.kept.states[number], place == len(line)
			if now.matches(last) && !yield(place) {
				return
			}
			if last || now.ended() {
				return
			}
			number = d.step(number, line[place])
		}
	}
}

// start is the state in which a walk begins.
func (d *DFA) start(w way) int {
	if number, known := d.kept.starts[w]; known {
		return number
	}
	return d.kept.keepStart(w, d.maker.first(w))
}

// step is the state behind a byte.
func (d *DFA) step(from int, b byte) int {
	d.gone++
	kind := d.kinds[b]
	if to, known := d.kept.next(from, kind); known {
		return to
	}
	return d.kept.keepNext(from, kind, d.maker.behind(d.kept.states[from], b))
}
