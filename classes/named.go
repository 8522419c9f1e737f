package classes

import "dredge/api"

// Named is the class of a name. A class that has another one in it falls through to that one, and tells only what it has beside it.
func Named(name string) ([]api.Range, bool) {
	var l []api.Range
	switch name {
	case "print":
		l = append(l, one(' '))
		fallthrough
	case "graph":
		l = append(l, punct()...)
		fallthrough
	case "alnum":
		l = append(l, api.Range{Lo: '0', Hi: '9'})
		fallthrough
	case "alpha":
		l = append(l, api.Range{Lo: 'A', Hi: 'Z'})
		fallthrough
	case "lower":
		l = append(l, api.Range{Lo: 'a', Hi: 'z'})
	case "xdigit":
		l = append(l, api.Range{Lo: 'A', Hi: 'F'}, api.Range{Lo: 'a', Hi: 'f'})
		fallthrough
	case "digit":
		l = append(l, api.Range{Lo: '0', Hi: '9'})
	case "space":
		l = append(l, api.Range{Lo: '\n', Hi: '\r'})
		fallthrough
	case "blank":
		l = append(l, one('\t'), one(' '))
	case "cntrl":
		l = append(l, api.Range{Lo: 0, Hi: 31}, one(127))
	case "punct":
		l = punct()
	case "upper":
		l = append(l, api.Range{Lo: 'A', Hi: 'Z'})
	default:
		return nil, false
	}
	// What has come from several cases is neither in order nor joined.
	return classOf(l), true
}

// Names are all names of classes, rising.
func Names() []string {
	return []string{"alnum", "alpha", "blank", "cntrl", "digit", "graph", "lower", "print", "punct", "space", "upper", "xdigit"}
}

func one(c int) api.Range {
	return api.Range{Lo: c, Hi: c}
}

// punct is what stands between the digits and the letters, up to the last character that is seen.
func punct() []api.Range {
	return []api.Range{{Lo: '!', Hi: '/'}, {Lo: ':', Hi: '@'}, {Lo: '[', Hi: '`'}, {Lo: '{', Hi: '~'}}
}
