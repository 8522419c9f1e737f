package back

// spot is an instruction and a place: a configuration, but for its groups and counters.
type spot struct{ inst, place int }

// task is what lies on the pile. Ahead of it groups and counters go back to its mark.
type task interface{ mark() int }

// marked is a mark.
type marked int

func (m marked) mark() int { return int(m) }

// look is a configuration that is still to be looked at.
type look struct {
	spot
	marked
}

// leave is the mark of one that a plain machine leaves again, when it has gone all ways from there.
type leave struct {
	spot
	marked
}
