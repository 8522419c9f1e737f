package compare

// walker goes through a tree that is written out, from spots to spots, as far as nothing is read.
type walker struct {
	*written
	round   int
	seen    []int // the round in which a spot was met last
	ahead   set   // the positions that may read next
	matches bool  // may a match end here?
}

func newWalker(w *written) *walker {
	return &walker{written: w, seen: make([]int, len(w.spots))}
}

// walk goes on from some spots: at a line's beginning, or not. Behind NEnds it goes on last, and reads nothing there: what has been met ahead of one may do all that it may do behind one.
func (w *walker) walk(from []int, begins bool) {
	w.round++
	w.ahead, w.matches = set{}, false
	read := func(position int) { w.ahead.put(position) }
	for len(from) > 0 {
		from = w.upToEnds(from, begins, read)
		read = func(int) {}
	}
}

// upToEnds goes on from some spots up to NEnds, and tells the spots behind these.
func (w *walker) upToEnds(from []int, begins bool, read func(position int)) []int {
	var behindEnds []int
	for len(from) > 0 {
		at := from[len(from)-1]
		from = from[:len(from)-1]
		if w.seen[at] == w.round {
			continue
		}
		w.seen[at] = w.round
		s := w.spots[at]
		switch s.asks {
		case reads:
			read(s.position)
		case atEnd:
			behindEnds = append(behindEnds, s.next...)
		case hasMatch:
			w.matches = true
		default:
			if s.asks == passes || begins {
				from = append(from, s.next...)
			}
		}
	}
	return behindEnds
}
