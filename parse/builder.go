package parse

import "dredge/api"

// builder makes parts of tokens, from the front on. Each group that begins in them ends, and none ends that did not begin.
type builder struct {
	tokens []api.Token
	at     int // how many tokens have been taken
	groups int // how many of them are TokOpens
}

// pattern takes branches, up to the end of the group that they stand in. One branch alone is the pattern itself.
func (b *builder) pattern() part {
	branches := []part{b.branch()}
	for b.sees(api.TokAlt) {
		b.take()
		branches = append(branches, b.branch())
	}
	if len(branches) == 1 {
		return branches[0]
	}
	return choice{branches}
}

// branch takes items, up to the end of the branch. One item alone is the branch itself.
func (b *builder) branch() part {
	var items []part
	for b.at < len(b.tokens) && !b.sees(api.TokAlt) && !b.sees(api.TokClose) {
		items = append(items, b.item())
	}
	if len(items) == 1 {
		return items[0]
	}
	return row{items}
}

// item takes an anchor, or a thing and how often it is. Behind an anchor there is never how often: so both are taken alike.
func (b *builder) item() part {
	p := b.thing()
	for b.sees(api.TokRep) {
		t := b.take()
		p = turns{t.Min, t.Max, p}
	}
	return p
}

func (b *builder) thing() part {
	t := b.take()
	switch t.Kind {
	case api.TokOpen:
		return b.group()
	case api.TokBegin:
		return leaf{api.Node{Kind: api.NBegin}}
	case api.TokEnd:
		return leaf{api.Node{Kind: api.NEnd}}
	case api.TokBack:
		return leaf{api.Node{Kind: api.NBack, N: t.N}}
	}
	return leaf{api.Node{Kind: api.NSet, Ranges: t.Ranges}}
}

// group takes what is left of a group whose beginning has been taken. It has its number ahead of the groups within it.
func (b *builder) group() part {
	b.groups++
	number := b.groups
	kid := b.pattern()
	b.take()
	return group{number, kid}
}

// sees tells whether the next token is of a kind.
func (b *builder) sees(kind int) bool {
	return b.at < len(b.tokens) && b.tokens[b.at].Kind == kind
}

func (b *builder) take() api.Token {
	b.at++
	return b.tokens[b.at-1]
}
