package back

import (
	"dredge/api"
	"dredge/sets"
)

// next is what a configuration leads to, if it does; of two the second one waits.
func (r *run) next(s spot) (spot, bool) {
	in := &r.insts[s.inst]
	on := spot{s.inst + 1, s.place}
	switch in.Op {
	case api.OpByte:
		on.place++
		return on, s.place < len(r.line) && sets.Has(in.Set, int(r.line[s.place]))
	case api.OpSplit:
		r.wait(spot{in.Y, s.place})
		return spot{in.X, s.place}, true
	case api.OpJump:
		return spot{in.X, s.place}, true
	case api.OpBegin:
		return on, s.place == 0
	case api.OpEnd:
		return on, s.place == len(r.line)
	case api.OpOpen:
		r.open(in.N, s.place)
	case api.OpClose:
		r.close(in.N, s.place)
	case api.OpBack:
		bytes, again := r.again(in.N, s.place)
		on.place += bytes
		return on, again
	case api.OpZero:
		r.count(in.N, 0, none)
	case api.OpTurn:
		return r.turn(in, s.place)
	case api.OpMatch:
		r.best = max(r.best, s.place)
		return on, false
	}
	return on, true
}

// turn leads to another turn, and to none.
func (r *run) turn(in *api.Inst, place int) (spot, bool) {
	turns := r.turns(in.N)
	if turns > in.Min && r.turned(in.N) == place {
		return spot{}, false
	}
	if in.Max != api.Infinite && turns >= in.Max {
		return spot{in.Y, place}, true
	}
	if turns >= in.Min {
		r.wait(spot{in.Y, place})
	}
	r.count(in.N, 1+min(turns, r.bounds[in.N]), place)
	return spot{in.X, place}, true
}

// again tells how many bytes a group's part has, and whether they stand at a place, too.
func (r *run) again(group, place int) (int, bool) {
	part, there := r.part(group)
	bytes := part.To - part.From
	if !there || bytes > len(r.line)-place {
		return 0, false
	}
	return bytes, r.alike(r.line[part.From:part.To], r.line[place:place+bytes])
}

// alike tells whether two texts of one length are, byte by byte.
func (r *run) alike(a, b string) bool {
	if !r.fold {
		return a == b
	}
	for i := range len(a) {
		if small(a[i]) != small(b[i]) {
			return false
		}
	}
	return true
}

// small is a byte; of a letter the small one.
func small(b byte) byte {
	if b >= 'A' && b <= 'Z' {
		return b - 'A' + 'a'
	}
	return b
}
