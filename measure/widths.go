package measure

import "dredge/api"

// widest is the greatest number of bytes that is told as it is.
const widest = 1000000

// widths is the least and the greatest number of bytes, which may be Infinite.
type widths struct{ least, most int }

func width(s spot[widths]) widths {
	var w widths
	switch s.node.Kind {
	case api.NSet:
		w = setWidths(s.node.Ranges, s.mode)
	case api.NCat:
		for _, kid := range s.kids {
			w = widths{leastOf(w.least + kid.least), sum(w.most, kid.most)}
		}
	case api.NAlt:
		w = s.kids[0]
		for _, kid := range s.kids {
			w = widths{min(w.least, kid.least), greater(w.most, kid.most)}
		}
	case api.NGroup:
		w = s.kids[0]
	case api.NBack:
		w = s.group(s.node.N)
	case api.NRep:
		kid := s.kids[0]
		w = widths{leastOf(s.node.Min * kid.least), product(s.node.Max, kid.most)}
	}
	return w
}

// setWidths holds the first and the last character only: those of more bytes have the greater numbers.
func setWidths(l []api.Range, mode api.Mode) widths {
	if len(l) == 0 {
		return widths{}
	}
	return widths{len(written(l[0].Lo, mode)), len(written(l[len(l)-1].Hi, mode))}
}

// leastOf is a number as a least one counts.
func leastOf(n int) int {
	return min(n, widest)
}

// mostOf is a number, not Infinite, as a greatest one counts.
func mostOf(n int) int {
	if n > widest {
		return api.Infinite
	}
	return n
}

// sum, product and greater are of two greatest numbers.
func sum(a, b int) int {
	if a == api.Infinite || b == api.Infinite {
		return api.Infinite
	}
	return mostOf(a + b)
}

func product(a, b int) int {
	switch {
	case a == 0 || b == 0:
		return 0
	case a == api.Infinite || b == api.Infinite:
		return api.Infinite
	}
	return mostOf(a * b)
}

func greater(a, b int) int {
	if a == api.Infinite || b == api.Infinite {
		return api.Infinite
	}
	return max(a, b)
}
