package measure

import (
	"strings"

	"dredge/api"
	"dredge/chars"
)

// maxText is how many bytes of a text are told.
const maxText = 1000

// opening is what each match begins with, and whether that is all of it (a Literal).
type opening struct {
	text  string
	whole bool
}

func beginning(s spot[opening]) opening {
	switch s.node.Kind {
	case api.NEmpty:
		return opening{whole: true}
	case api.NSet:
		if l := s.node.Ranges; len(l) == 1 && l[0].Lo == l[0].Hi {
			return opening{written(l[0].Lo, s.mode), true}
		}
	case api.NCat:
		return rowBeginning(s)
	case api.NGroup:
		return s.kids[0]
	case api.NRep:
		return repeatedBeginning(s.node, s.kids[0])
	}
	return opening{}
}

// rowBeginning goes through an NCat up to the first Kid behind whose text something unknown may stand. Behind an NBegin, which has no Literal, nothing is unknown.
func rowBeginning(s spot[opening]) opening {
	row := opening{whole: true}
	for i, kid := range s.kids {
		row = opening{row.text + kid.text, row.whole && kid.whole}
		isKnown := kid.whole || s.node.Kids[i].Kind == api.NBegin
		if !isKnown || len(row.text) > maxText {
			break
		}
	}
	return cut(row)
}

func repeatedBeginning(n api.Node, kid opening) opening {
	switch {
	case n.Max == 0:
		return opening{whole: true}
	case n.Min == 0:
		return opening{}
	case !kid.whole:
		return kid
	}
	return cut(opening{strings.Repeat(kid.text, n.Min), n.Min == n.Max})
}

// cut is a text as it is told: of what is too long the first bytes, which are no Literal. They are copied, or all of it would be kept.
func cut(o opening) opening {
	if len(o.text) > maxText {
		return opening{text: strings.Clone(o.text[:maxText])}
	}
	return o
}

// written is a character of the mode as it stands in a line.
func written(c int, mode api.Mode) string {
	if mode.Chars {
		text, _ := chars.Encode([]int{c})
		return text
	}
	return string([]byte{byte(c)})
}
