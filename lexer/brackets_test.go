package lexer_test

import (
	"slices"
	"testing"

	"dredge/api"
	"dredge/classes"
	"dredge/lexer"
)

// TestFirstItems: P7.1, what stands first among the items: a ], a -, a ^ behind another one.
func TestFirstItems(t *testing.T) {
	isRead(t, "[]]", neither, set(0, 3, 93, 93))
	isRead(t, "[^]]", neither, set(0, 4, 0, 92, 94, 255))
	isRead(t, "[]]]", neither, set(0, 3, 93, 93), char(3, 4, ']'))
	isRead(t, "[]-a]", neither, set(0, 5, 93, 97))
	isRead(t, "[]-]", neither, set(0, 4, 45, 45, 93, 93))
	isRead(t, "[^]-a]", neither, set(0, 6, 0, 92, 98, 255))
	isRead(t, "[^^]", neither, set(0, 4, 0, 93, 95, 255))
	isRead(t, "[a^]", neither, set(0, 4, 94, 94, 97, 97))
	isRead(t, "[-a]", neither, set(0, 4, 45, 45, 97, 97))
	isRead(t, "[^-a]", neither, set(0, 5, 0, 44, 46, 96, 98, 255))
	isRead(t, "[-]", neither, set(0, 3, 45, 45))
	isRead(t, "[^-]", neither, set(0, 4, 0, 44, 46, 255))
	isRead(t, "]", neither, char(0, 1, ']'))
	isWrong(t, "[]", neither, api.ErrBracket, 0)
	isWrong(t, "[^]", neither, api.ErrBracket, 0)
	isWrong(t, "[^", neither, api.ErrBracket, 0)
	isWrong(t, "[", neither, api.ErrBracket, 0)
	isWrong(t, "a[", neither, api.ErrBracket, 1)
}

// TestDashes: P7.1, where a - is a character, and where it makes a range.
func TestDashes(t *testing.T) {
	isRead(t, "[a-c]", neither, set(0, 5, 97, 99))
	isRead(t, "[a-a]", neither, set(0, 5, 97, 97))
	isRead(t, "[a-]", neither, set(0, 4, 45, 45, 97, 97))
	isRead(t, "[a-]]", neither, set(0, 4, 45, 45, 97, 97), char(4, 5, ']'))
	isRead(t, "[--]", neither, set(0, 4, 45, 45))
	isRead(t, "[---]", neither, set(0, 5, 45, 45))
	isRead(t, "[----]", neither, set(0, 6, 45, 45))
	isRead(t, "[--/]", neither, set(0, 5, 45, 47))
	isRead(t, "[+--]", neither, set(0, 5, 43, 45))
	isRead(t, "[-a-c]", neither, set(0, 6, 45, 45, 97, 99))
	isRead(t, "[a-cx-z]", neither, set(0, 8, 97, 99, 120, 122))
	isRead(t, "[a-cd-e]", neither, set(0, 8, 97, 101))
	isRead(t, "[x-za-c-]", neither, set(0, 9, 45, 45, 97, 99, 120, 122))
	isRead(t, "[[:digit:]-]", neither, set(0, 12, 45, 45, 48, 57))
	isRead(t, "[[=a=]-]", neither, set(0, 8, 45, 45, 97, 97))
	isRead(t, "[[.a.]-]", neither, set(0, 8, 45, 45, 97, 97))
	isWrong(t, "[a--]", neither, api.ErrRange, 1)
	isWrong(t, "[a-c-e]", neither, api.ErrRange, 4)
	isWrong(t, "[a-c-", neither, api.ErrBracket, 0)
	isWrong(t, "[a-c--]", neither, api.ErrRange, 4)
	isWrong(t, "[-----]", neither, api.ErrRange, 4)
	isWrong(t, "[a-c-\\", neither, api.ErrRange, 4)
	isWrong(t, "[[:digit:]-z]", neither, api.ErrRange, 10)
	isWrong(t, "[[:digit:]-", neither, api.ErrBracket, 0)
	isWrong(t, "[[:digit:]--]", neither, api.ErrRange, 10)
	isWrong(t, "[[:digit:]-[:alpha:]]", neither, api.ErrRange, 10)
	isWrong(t, "[[=a=]-", neither, api.ErrBracket, 0)
	isWrong(t, "x[a-", neither, api.ErrBracket, 1)
	isWrong(t, "x[--", neither, api.ErrBracket, 1)
}

// TestRanges: P7.1, a range's ends, and what is wrong with it once both have been read.
func TestRanges(t *testing.T) {
	isRead(t, "[\x00-\xff]", neither, set(0, 5, 0, 255))
	isRead(t, "[^\x00-\xff]", neither, set(0, 6))
	isRead(t, "[\x80-\x90]", neither, set(0, 5, 128, 144))
	isRead(t, "[é-€]", chars, set(0, 8, 0xe9, 0x20ac))
	isRead(t, "[\ud7ff-\ue000]", chars, set(0, 9, 0xd7ff, 0xd7ff, 0xe000, 0xe000))
	isRead(t, "[\x00-\U0010ffff]", chars, set(0, 8, 0, 55295, 57344, 1114111))
	isRead(t, "[^\x00-\U0010ffff]", chars, set(0, 9))
	isRead(t, "[^\x00-\u00ff]", chars, set(0, 7, 256, 55295, 57344, 1114111))
	isRead(t, "[a-[.c.]]", neither, set(0, 9, 97, 99))
	isRead(t, "[[.a.]-[.c.]]", neither, set(0, 13, 97, 99))
	isRead(t, "[[.a.]-c]", neither, set(0, 9, 97, 99))
	isRead(t, "[[-a]", neither, set(0, 5, 91, 97))
	isRead(t, "[A-[]", neither, set(0, 5, 65, 91))
	isRead(t, "[A-[b]", neither, set(0, 6, 65, 91, 98, 98))
	isRead(t, `[A-\]`, neither, set(0, 5, 65, 92))
	isRead(t, `[\-a]`, neither, set(0, 5, 92, 97))
	isWrong(t, "[b-a", neither, api.ErrRange, 1)
	isWrong(t, "[xb-a]", neither, api.ErrRange, 2)
	isWrong(t, "[b-[.a.]", neither, api.ErrRange, 1)
	isWrong(t, "[[.b.]-a]", neither, api.ErrRange, 1)
	isWrong(t, "[x[.b.]-[.a.]]", neither, api.ErrRange, 2)
	isWrong(t, "[b-[", neither, api.ErrRange, 1)
	isWrong(t, "[A-[", neither, api.ErrBracket, 0)
	isWrong(t, "[€-é]", chars, api.ErrRange, 1)
	isWrong(t, "[é€-é]", chars, api.ErrRange, 3)
	isWrong(t, "[b-A]", fold, api.ErrRange, 1)
	isWrong(t, "[a-[:digit:]]", neither, api.ErrRange, 1)
	isWrong(t, "[a-[:x:]]", neither, api.ErrRange, 1)
	isWrong(t, "[a-[:", neither, api.ErrRange, 1)
	isWrong(t, "[a-[=", neither, api.ErrRange, 1)
	isWrong(t, "[a-[=b=]]", neither, api.ErrRange, 1)
	isWrong(t, "[--[:digit:]]", neither, api.ErrRange, 1)
	isWrong(t, "[x[.a.]-[=b=]]", neither, api.ErrRange, 2)
	isWrong(t, "[a-[.b", neither, api.ErrBracket, 0)
	isWrong(t, "[b-[.a", neither, api.ErrBracket, 0)
	isWrong(t, "[b-[.aa.]]", neither, api.ErrClass, 3)
}

// TestNames: P7.1, each name of a class, in all modes, and what is none.
func TestNames(t *testing.T) {
	for _, name := range classes.Names() {
		l, _ := classes.Named(name)
		item := "[:" + name + ":]"
		end := len(item) + 2
		for _, mode := range modes() {
			folded := l
			if mode.Fold {
				folded = classes.Fold(l)
			}
			isRead(t, "["+item+"]", mode, api.Token{Kind: api.TokSet, End: end, Ranges: folded})
			isRead(t, "[^"+item+"]", mode, api.Token{Kind: api.TokSet, End: end + 1, Ranges: classes.Not(folded, mode.Chars)})
		}
		isWrong(t, "[a"+item, neither, api.ErrBracket, 0)
	}
	isRead(t, "[[:digit:][:upper:]_]", neither, set(0, 21, 48, 57, 65, 90, 95, 95))
	isRead(t, "[a:]", neither, set(0, 4, 58, 58, 97, 97))
	isRead(t, "[:digit:]", neither, set(0, 9, 58, 58, 'd', 'd', 'g', 'g', 'i', 'i', 't', 't'))
	for _, s := range []string{"", "dig", "digits", "Digit", "DIGIT", " digit", "digit ", "^digit", "]", "a]b", "[:digit", ".", "\xff", "\n", "é"} {
		for _, mode := range modes() {
			isWrong(t, "[[:"+s+":]]", mode, api.ErrClass, 1)
			isWrong(t, "x[a[:"+s+":]", mode, api.ErrClass, 3)
		}
	}
	isWrong(t, "[[:digit:::]]", neither, api.ErrClass, 1)
	isWrong(t, "[[:digit]", neither, api.ErrBracket, 0)
	isWrong(t, "[[:digit:", neither, api.ErrBracket, 0)
	isWrong(t, "[[:digit: ]]", neither, api.ErrBracket, 0)
	isWrong(t, "x[[:digit", neither, api.ErrBracket, 1)
	isWrong(t, "[[:]", neither, api.ErrBracket, 0)
	isWrong(t, "[[:", neither, api.ErrBracket, 0)
	isWrong(t, "[[::", neither, api.ErrBracket, 0)
	isWrong(t, "[[:\xff", chars, api.ErrBracket, 0)
}

// TestElements: P7.1, [= and [. with one character; what looks like their end is one.
func TestElements(t *testing.T) {
	for _, mark := range []string{"=", "."} {
		for b := range 128 {
			s := "[[" + mark + string(rune(b)) + mark + "]]"
			isRead(t, s, neither, char(0, 7, b))
			isRead(t, s, chars, char(0, 7, b))
		}
		isRead(t, "[["+mark+"\xff"+mark+"]]", neither, char(0, 7, 255))
		isRead(t, "[["+mark+"é"+mark+"]]", chars, char(0, 8, 0xe9))
		isRead(t, "[["+mark+"\U0010ffff"+mark+"]]", both, char(0, 10, 0x10ffff))
		isRead(t, "[["+mark+"a"+mark+"]]", fold, set(0, 7, 65, 65, 97, 97))
		isRead(t, "[^["+mark+"a"+mark+"]b]", neither, set(0, 9, 0, 96, 99, 255))
		isRead(t, "["+mark+"]", neither, char(0, 3, int(mark[0])))
		for _, within := range []string{"ab", "]]", mark + "]", "]" + mark, "\xff\xff", "[:digit:]", "a-b"} {
			for _, mode := range modes() {
				isWrong(t, "x[["+mark+within+mark+"]]", mode, api.ErrClass, 2)
				isWrong(t, "[ab["+mark+within+mark+"]", mode, api.ErrClass, 3)
			}
		}
		isWrong(t, "[["+mark+"é"+mark+"]]", neither, api.ErrClass, 1)
		for _, within := range []string{"\xff", "\xc3", "\xa9", "\xe2\x82", "\xed\xa0\x80", "aé", "éa", "é\xff", "a\xff"} {
			isWrong(t, "[["+mark+within+mark+"]]", chars, api.ErrClass, 1)
		}
		for _, s := range []string{"[[" + mark, "[[" + mark + mark, "[[" + mark + "]", "[[" + mark + mark + "]", "[[" + mark + mark + "]]", "[[" + mark + "a", "[[" + mark + "a" + mark, "[[" + mark + "a]]", "[[" + mark + "a:]]", "[[" + mark + "\xff", "[[" + mark + "a" + mark + "]"} {
			for _, mode := range modes() {
				isWrong(t, s, mode, api.ErrBracket, 0)
				isWrong(t, "yz"+s, mode, api.ErrBracket, 2)
			}
		}
	}
	isWrong(t, "[[=a.]]", neither, api.ErrBracket, 0)
	isWrong(t, "[[.a=]]", neither, api.ErrBracket, 0)
	isWrong(t, "[[.zz.]-", neither, api.ErrClass, 1)
	isWrong(t, "[[.zz.]-a]", neither, api.ErrClass, 1)
	isRead(t, "[[.^.]a]", neither, set(0, 8, 94, 94, 97, 97))
	isRead(t, "[[.].]-[.^.]]", neither, set(0, 13, 93, 94))
}

// TestOthers: P7.1, any other unit is that character: a [ ahead of none of : = . and what is more than a character elsewhere.
func TestOthers(t *testing.T) {
	isRead(t, "[[]", neither, char(0, 3, '['))
	isRead(t, "[[a]", neither, set(0, 4, 91, 91, 97, 97))
	isRead(t, "[[[]", neither, char(0, 4, '['))
	isRead(t, "[[]]", neither, char(0, 3, '['), char(3, 4, ']'))
	isRead(t, "[a[]", neither, set(0, 4, 91, 91, 97, 97))
	isRead(t, `[\]`, neither, char(0, 3, '\\'))
	isRead(t, `[\]]`, neither, char(0, 3, '\\'), char(3, 4, ']'))
	isRead(t, `[.*$\(\)]`, neither, set(0, 9, 36, 36, 40, 42, 46, 46, 92, 92))
	isRead(t, "[\x00\n]", neither, set(0, 4, 0, 0, 10, 10))
	isRead(t, "[éa]", chars, set(0, 5, 97, 97, 0xe9, 0xe9))
	isRead(t, "[éa]", neither, set(0, 5, 97, 97, 0xa9, 0xa9, 0xc3, 0xc3))
	isRead(t, "[aab-cb]", neither, set(0, 8, 97, 99))
	isRead(t, "[a]*", neither, char(0, 3, 'a'), rep(3, 4, 0, -1))
	isRead(t, `[a]\{2\}`, neither, char(0, 3, 'a'), rep(3, 8, 2, 2))
	isRead(t, "[a]^$", neither, char(0, 3, 'a'), char(3, 4, '^'), plain(api.TokEnd, 4, 5))
	isRead(t, `[$]`, neither, char(0, 3, '$'))
}

// TestFolded: P7.1, with Fold each letter's other case, too, ahead of a ^; no other character.
func TestFolded(t *testing.T) {
	isRead(t, "[a-c]", fold, set(0, 5, 65, 67, 97, 99))
	isRead(t, "[B-C]", fold, set(0, 5, 66, 67, 98, 99))
	isRead(t, "[Z-a]", fold, set(0, 5, 65, 65, 90, 97, 122, 122))
	isRead(t, "[@[]", fold, set(0, 4, 64, 64, 91, 91))
	isRead(t, "[`{]", fold, set(0, 4, 96, 96, 123, 123))
	isRead(t, "[^B-y]", fold, set(0, 6, 0, 64, 123, 255))
	isRead(t, "[^a-c]", both, set(0, 6, 0, 64, 68, 96, 100, 55295, 57344, 1114111))
	isRead(t, "[é\u212a]", both, set(0, 7, 0xe9, 0xe9, 0x212a, 0x212a))
	isRead(t, "[\xe9]", fold, set(0, 3, 0xe9, 0xe9))
	isRead(t, "[^a-z]", neither, set(0, 6, 0, 96, 123, 255))
}

// TestSetsAreClasses: P7.1, every TokSet's Ranges are a class of the mode.
func TestSetsAreClasses(t *testing.T) {
	for _, mode := range modes() {
		for _, s := range []string{"[zyxa-cb]", "[^zyxa-cb]", "[[:upper:]a-z@[]", "[\x20-\x7f]", "[^[:print:]]"} {
			if x := lexed(t, s, mode); !classes.Right(x.Ranges, mode.Chars) {
				t.Errorf("Lex(%q, %v): %v is no class", s, mode, x.Ranges)
			}
		}
	}
	l, err := lexer.Lex("[c][b][a]", neither)
	if err != nil || slices.ContainsFunc(l, func(x api.Token) bool { return len(x.Ranges) != 1 }) {
		t.Errorf("%v, %v", l, err)
	}
}
