package engine

import (
	"dredge/api"
	"dredge/back"
	"dredge/compile"
	"dredge/measure"
	"dredge/places"
	"dredge/scan"
)

// route is a way to look for parts of lines.
type route interface {
	Find(line string, from int) (api.Span, bool, api.Errno)
	Steps() int
}

// lazy is the route of the automata.
type lazy struct{ *scan.Scan }

// machine is the route of the machine with continuations.
type machine struct {
	*back.Back
	mode  api.Mode
	plain bool
}

// routeOf is a tree's route by a plan, and whether there is one.
func routeOf(n api.Node, plan api.Plan) (route, api.Errno) {
	free := measure.Free(n, plan.Mode)
	switch {
	case plan.Route == api.Lazy && !free:
		return nil, api.ErrRoute
	case plan.Route == api.Machine || !free:
		return newMachine(n, plan)
	}
	return newLazy(n, plan)
}

func newLazy(n api.Node, plan api.Plan) (route, api.Errno) {
	s, e := scan.New(n, plan.Mode, plan.Room)
	if e != api.OK {
		return nil, e
	}
	return lazy{s}, api.OK
}

func newMachine(n api.Node, plan api.Plan) (route, api.Errno) {
	p, e := compile.Counted(n, plan.Mode)
	if e != api.OK {
		return nil, e
	}
	b, e := back.New(p, plan.Plain)
	if e != api.OK {
		return nil, e
	}
	return machine{Back: b, mode: plan.Mode, plain: plan.Plain}, api.OK
}

// Find is the first and longest part from a place on. The program knows bytes alone, but begins at a place, too, where it is asked from one: no character begins within another one, so with bytes nothing is found there; and a part without bytes that is there, far from the line's ends, is at every place, so at the first one.
func (m machine) Find(line string, from int) (api.Span, bool, api.Errno) {
	if !places.Is(line, from, m.mode) {
		return api.Span{}, false, api.ErrArg
	}
	return m.Back.Find(line, from)
}

func isLazy(r route) bool {
	_, is := r.(lazy)
	return is
}

// isPlain tells whether a route that is not the automata's does not remember.
func isPlain(r route) bool { return r.(machine).plain }
