package engine

import "dredge/measure"

// mostSteps stands for every number of steps that is above it.
const mostSteps = 1 << 62

// Bound is what one Find in a line of n bytes does at most.
func (e *Engine) Bound(n int) int {
	if n < 0 {
		return 0
	}
	n = min(n, mostSteps)
	once := product(64, e.size+8)
	if isLazy(e.route) {
		return product(once, n+1)
	}
	if isPlain(e.route) {
		return mostSteps
	}
	refs, turns := measure.Used(e.tree, e.mode), turnsOf(e.tree)
	if len(refs) == 0 && len(turns) == 0 {
		return product(once, n+1, n+1)
	}
	bound := product(once, n+2, n+2)
	for range refs {
		bound = product(bound, n+2, n+2)
	}
	for _, most := range turns {
		bound = product(bound, 2, most+2)
	}
	return bound
}

// product is that of numbers above 0; what is too large is mostSteps.
func product(factors ...int) int {
	all := 1
	for _, factor := range factors {
		if all > mostSteps/factor {
			return mostSteps
		}
		all *= factor
	}
	return all
}
