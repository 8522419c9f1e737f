package code_test

import (
	"errors"
	"slices"
	"strings"
	"testing"

	"dredge/api"
	"dredge/code"
)

// thereAndBack: P14.3, P14.4 and P14.7, a program's text, and what is read from it.
func thereAndBack(t *testing.T, p api.Program, want string) {
	t.Helper()
	s, e := code.Text(p)
	if e != api.OK || s != want {
		t.Errorf("Text(%v): %q, %v, want %q", brief(p), short(s), e, short(want))
		return
	}
	reads(t, s, p)
	q, err := code.Read(s)
	if err != nil || !code.Same(p, q) {
		t.Errorf("Read(%q): %v, %v", short(s), brief(q), err)
	}
	if e, at := code.Right(q); e != api.OK || at != 0 {
		t.Errorf("Right of Read(%q): %v, %d", short(s), e, at)
	}
	if again, e := code.Text(q); e != api.OK || again != s {
		t.Errorf("Text of Read(%q): %q, %v", short(s), short(again), e)
	}
}

// TestForms: P14.3, each form.
func TestForms(t *testing.T) {
	thereAndBack(t, oneOfEach(), "program 2 2\nbyte 61\nsplit 2 3\njump 4\nbegin\nend\nopen 0\nclose 1\nback 0\nzero 1\nturn 1 2 3 0 10\nmatch\n")
	thereAndBack(t, program(match()), "program 0 0\nmatch\n")
	thereAndBack(t, folded(program(match())), "program 0 0 fold\nmatch\n")
	thereAndBack(t, folded(with(program(match()), 30, 40)), "program 30 40 fold\nmatch\n")
	thereAndBack(t, with(program(turn(0, 0, 0, 0, 0)), 0, 1), "program 0 1\nturn 0 0 0 0 0\n")
	thereAndBack(t, with(program(turn(0, 0, api.Infinite, 0, 0)), 0, 1), "program 0 1\nturn 0 0 * 0 0\n")
	thereAndBack(t, with(program(turn(10, 255, 255, 1, 0), jump(0)), 0, 40), "program 0 40\nturn 10 255 255 1 0\njump 0\n")
	thereAndBack(t, with(program(turn(39, 100, api.Infinite, 1, 0), jump(0)), 0, 40), "program 0 40\nturn 39 100 * 1 0\njump 0\n")
	thereAndBack(t, with(program(turn(0, 1, 2, 3, 4), jump(0), jump(0), jump(0), jump(0)), 0, 1), "program 0 1\nturn 0 1 2 3 4\njump 0\njump 0\njump 0\njump 0\n")
}

// TestSets: P14.3, every byte and every range of bytes, and sets of several.
func TestSets(t *testing.T) {
	isSet := func(s api.Set, want string) {
		t.Helper()
		if want != modelSet(s) {
			t.Errorf("%q, want %q", modelSet(s), want)
		}
		thereAndBack(t, program(byteOf(s), match()), "program 0 0\nbyte "+want+"\nmatch\n")
	}
	isSet(api.Set{}, "none")
	isSet(span(0, 255), "00-ff")
	isSet(only(0), "00")
	isSet(only(255), "ff")
	isSet(only(0, 1), "00-01")
	isSet(only(0, 2), "00,02")
	isSet(only(9, 10, 15, 16, 160, 175), "09-0a,0f-10,a0,af")
	isSet(or(or(only(0), span('A', 'Z')), only(255)), "00,41-5a,ff")
	isSet(or(span(0, 62), span(64, 255)), "00-3e,40-ff")
	isSet(span(63, 64), "3f-40")
	for lo := range 256 {
		for hi := lo; hi < 256; hi++ {
			p := program(byteOf(span(lo, hi)), match())
			s, e := code.Text(p)
			if e != api.OK || s != modelText(p) {
				t.Fatalf("%d to %d: %q, %v", lo, hi, s, e)
			}
			reads(t, s, p)
		}
	}
	var odd, thirds api.Set // the most ranges; the longest text
	for b := range 256 {
		if b%2 == 1 {
			odd = or(odd, only(b))
		}
		if b%3 != 2 {
			thirds = or(thirds, only(b))
		}
	}
	for _, s := range []api.Set{odd, thirds} {
		isSet(s, modelSet(s))
	}
	next := numbers(1)
	for range 2000 {
		s := madeSet(next)
		isSet(s, modelSet(s))
	}
}

// TestManyTexts: P14.3, P14.4 and P14.7, many programs.
func TestManyTexts(t *testing.T) {
	next := numbers(7)
	for range 10000 {
		p := made(next, 15)
		thereAndBack(t, p, modelText(p))
	}
}

// TestTextOfMany: P14.3 and P14.4, at the limit of instructions.
func TestTextOfMany(t *testing.T) {
	p := folded(program(many(split(39999, 12345), 40000)...))
	thereAndBack(t, p, "program 0 0 fold\n"+strings.Repeat("split 39999 12345\n", 40000))
}

// isNone: P14.4, a line is none of the forms, wherever it stands behind the first one.
func isNone(t *testing.T, text string) {
	t.Helper()
	refuses(t, "program 9 9\n"+text+"\n", api.ErrText, 12)
	refuses(t, "program 9 9\nmatch\n"+text+"\nmatch\n", api.ErrText, 18)
	refuses(t, "program 9 9\n"+text+"\nbyte 1\n", api.ErrText, 12)
	refuses(t, "program 9 9\njump 9\n"+text+"\n", api.ErrText, 19)
	refuses(t, "program 99 9\nmatch\n"+text+"\n", api.ErrText, 19)
}

// TestFirstLines: P14.4, the first line of all.
func TestFirstLines(t *testing.T) {
	for _, s := range []string{"", " ", "\n", "\n\n", "match\n", "match\nprogram 0 0\n", "program\n", "program 0\n", "program 0 \n", "program  0 0\n", "program 0  0\n", " program 0 0\n", "program 0 0 \n", "program 0 0 0\n", "program 0 0 Fold\n", "program 0 0 fold \n", "program 0 0 fold fold\n", "program 0 0  fold\n", "program 0 0fold\n", "program fold 0 0\n", "program 0 fold\n", "program 0 0 nofold\n", "Program 0 0\n", "programs 0 0\n", "program 00 0\n", "program 0 00\n", "program 01 0\n", "program -1 0\n", "program +1 0\n", "program 0 -0\n", "program * 0\n", "program 0 *\n", "program a 0\n", "program 0x1 0\n", "program 1_0 0\n", "program 1000000 0\n", "program 0 1000000\n", "program 0 99999999999999999999999\n", "program\t0 0\n", "program 0 0\r\n", "program 0 0\x00\n", "\xefprogram 0 0\n", "program ٣ 0\n", "program 1.0 0\n", "program 1e1 0\n", "\xef\xbb\xbfprogram 0 0\n", "programm 0 0\n", "0 0\n", "fold\n"} {
		refuses(t, s, api.ErrText, 0)
		refuses(t, s+"match\n", api.ErrText, 0)
		refuses(t, strings.TrimSuffix(s, "\n"), api.ErrText, 0)
		if s != "" && !strings.HasPrefix(s, "match\n") {
			isNone(t, strings.TrimSuffix(s, "\n"))
		}
	}
	refuses(t, "program 0 0", api.ErrText, 0)
	refuses(t, "program 0 0 fold", api.ErrText, 0)
	isNone(t, "program 0 0")
	isNone(t, "program 0 0 fold")
}

// TestNoForms: P14.4, lines that are none.
func TestNoForms(t *testing.T) {
	for _, s := range []string{"", " ", "x", "matches", "Match", "MATCH", "match 0", "match ", " match", "match\r", "mat", "begin 0", "end 0", "begin ", "end ", "jump", "jump ", "jump  0", "jump 0 ", "jump 0 0", "jump a", "jump *", "jump -1", "jump -0", "jump +0", "jump 00", "jump 01", "jump 1000000", "jump 9999999", "jump 0000000", "jump 18446744073709551616", "jump\t0", "jump0", "split", "split 0", "split 0 ", "split 0  0", "split 0 0 0", "split 0,0", "split * 0", "split 0 *", "open", "open 00", "open 0 0", "open *", "open -1", "close", "close 0 0", "back", "back a", "zero", "zero 0 0", "zero *", "turn", "turn 0", "turn 0 0", "turn 0 0 0", "turn 0 0 0 0", "turn 0 0 * 0", "turn 0 0 0 0 0 0", "turn * 0 0 0 0", "turn 0 * * 0 0", "turn 0 * 0 0 0", "turn 0 0 0 * 0", "turn 0 0 0 0 *", "turn 0 0 -1 0 0", "turn 0 0 ** 0 0", "turn 0 0 0* 0 0", "turn 0 00 0 0 0", "turn 0 0 1000000 0 0", "turn 0 0 0 0 0 ", "# match", "0", "1", "none", "fold"} {
		isNone(t, s)
	}
}

// TestNoSets: P14.4, what is no set, as Text writes it.
func TestNoSets(t *testing.T) {
	for _, s := range []string{"", " ", "6", "061", "0x61", "6g", "g6", "AB", "aB", "Ab", "zz", "+1", "-1", "1-", "1_", "61,", ",61", ",", "-", "61-", "-61", "61--62", "61-62-63", "61-61", "62-61", "ff-00", "61,62", "61,61", "62,61", "63,61", "61-62,63", "61-63,62", "61-63,62-65", "61-63,64-65", "61-63,60", "61,62-63", "61,,63", "61;63", "61, 63", "61 63", "61 ", " 61", "None", "NONE", "none ", "none,61", "61,none", "none-none", "none,none", "no", "6 1", "00-100", "100", "256", "00-ff,ff", "00-ff,00", "61.63", "é", "\xff", "61\r", "61\x00", "6١", "61-6"} {
		isNone(t, "byte "+s)
	}
	isNone(t, "byte")
	isNone(t, "byte  none")
	isNone(t, "byte "+strings.Repeat("00,", 100000)+"02")
	isNone(t, "byte 61"+strings.Repeat(" ", 100000))
	isNone(t, "byte "+strings.Repeat("0", 100000)+"61")
}

// TestPairsOfBytes: P14.4, each two bytes with a - and with a comma between.
func TestPairsOfBytes(t *testing.T) {
	hex := func(b int) string { return string("0123456789abcdef"[b/16]) + string("0123456789abcdef"[b%16]) }
	for a := range 256 {
		for b := range 256 {
			text := "program 0 0\nbyte " + hex(a) + "-" + hex(b) + "\nmatch\n"
			if a < b {
				reads(t, text, program(byteOf(span(a, b)), match()))
			} else {
				refuses(t, text, api.ErrText, 12)
			}
			text = strings.Replace(text, "-", ",", 1)
			if a+1 < b {
				reads(t, text, program(byteOf(only(a, b)), match()))
			} else {
				refuses(t, text, api.ErrText, 12)
			}
		}
	}
}

// TestNoLineFeed: P14.4, a line without one is told where it begins, ahead of all that Right would tell.
func TestNoLineFeed(t *testing.T) {
	refuses(t, "p", api.ErrText, 0)
	refuses(t, "program 0 0\nm", api.ErrText, 12)
	refuses(t, "program 0 0\nmatch", api.ErrText, 12)
	refuses(t, "program 0 0\nmatch\nmatch", api.ErrText, 18)
	refuses(t, "program 0 0\nmatch\nmatch\x00", api.ErrText, 18)
	refuses(t, "program 0 0\nmatch\nmatch\r", api.ErrText, 18)
	refuses(t, "program 0 0\njump 7\nmatch", api.ErrText, 19)
	refuses(t, "program 31 0\nmatch", api.ErrText, 13)
	refuses(t, "program 0 0\nx\nmatch", api.ErrText, 12)
	refuses(t, "program 0 0\n\n", api.ErrText, 12)
	refuses(t, "program 0 0\nmatch\n\n", api.ErrText, 18)
	refuses(t, "program 0 0\nmatch\n ", api.ErrText, 18)
}

// TestRightsErrors: P14.4, what Right tells of a program that stands there, and where.
func TestRightsErrors(t *testing.T) {
	refuses(t, "program 0 0\n", api.ErrCode, 0)
	refuses(t, "program 30 40 fold\n", api.ErrCode, 0)
	refuses(t, "program 31 0\n", api.ErrArg, 0)
	refuses(t, "program 0 41\n", api.ErrArg, 0)
	refuses(t, "program 999999 999999\n", api.ErrArg, 0)
	refuses(t, "program 31 0\nmatch\n", api.ErrArg, 0)
	refuses(t, "program 0 41\njump 9\n", api.ErrArg, 0)
	refuses(t, "program 0 0\njump 1\n", api.ErrCode, 12)
	refuses(t, "program 0 0\njump 999999\n", api.ErrCode, 12)
	refuses(t, "program 0 0\nmatch\nsplit 0 2\n", api.ErrCode, 18)
	refuses(t, "program 0 0\nmatch\nsplit 2 0\n", api.ErrCode, 18)
	refuses(t, "program 0 0 fold\nmatch\nbyte none\n", api.ErrCode, 23)
	refuses(t, "program 0 0\nbegin\n", api.ErrCode, 12)
	refuses(t, "program 0 0\nmatch\nend\n", api.ErrCode, 18)
	refuses(t, "program 2 9\nopen 1\nopen 2\nmatch\n", api.ErrCode, 19)
	refuses(t, "program 2 9\nclose 2\nmatch\n", api.ErrCode, 12)
	refuses(t, "program 2 9\nback 999999\nmatch\n", api.ErrCode, 12)
	refuses(t, "program 9 1\nzero 0\nzero 1\nmatch\n", api.ErrCode, 19)
	refuses(t, "program 9 1\nturn 1 0 0 0 0\n", api.ErrCode, 12)
	refuses(t, "program 0 1\nturn 0 3 2 0 0\n", api.ErrCode, 12)
	refuses(t, "program 0 1\nturn 0 256 * 0 0\n", api.ErrCode, 12)
	refuses(t, "program 0 1\nturn 0 0 256 0 0\n", api.ErrCode, 12)
	refuses(t, "program 0 1\nturn 0 0 0 1 0\n", api.ErrCode, 12)
	refuses(t, "program 0 1\nmatch\nturn 0 0 0 0 2\njump 9\n", api.ErrCode, 33)
	refuses(t, "program 0 1\nmatch\nturn 0 0 0 0 3\njump 9\n", api.ErrCode, 18)
}

// TestTooMany: P14.4, more instructions than there may be; what has no form is told ahead of them, however far behind.
func TestTooMany(t *testing.T) {
	reads(t, "program 0 0\n"+strings.Repeat("match\n", 40000), program(many(match(), 40000)...))
	refuses(t, "program 0 0\n"+strings.Repeat("match\n", 40001), api.ErrMany, 0)
	refuses(t, "program 0 0\n"+strings.Repeat("match\n", 300000), api.ErrMany, 0)
	refuses(t, "program 31 0\n"+strings.Repeat("jump 999999\n", 40001), api.ErrMany, 0)
	refuses(t, "program 31 0\n"+strings.Repeat("jump 999999\n", 40000), api.ErrArg, 0)
	refuses(t, "program 0 0\n"+strings.Repeat("end\n", 40000), api.ErrCode, 12+4*39999)
	for _, n := range []int{40000, 40001, 40002, 100000} {
		refuses(t, "program 0 0\n"+strings.Repeat("match\n", n)+"x\n", api.ErrText, 12+6*n)
		refuses(t, "program 0 0\n"+strings.Repeat("match\n", n)+"match", api.ErrText, 12+6*n)
	}
}

// asModel: Read tells what the model tells.
func asModel(t *testing.T, s string) bool {
	t.Helper()
	p, b := modelRead(s)
	if b != nil {
		refuses(t, s, b.Code, b.At)
		return false
	}
	reads(t, s, p)
	if again, e := code.Text(p); again != s || e != api.OK {
		t.Errorf("Text of Read(%q): %q, %v", s, again, e)
	}
	return true
}

// TestTouched: P14.4, right texts in which one byte is gone, is another one, or has come.
func TestTouched(t *testing.T) {
	texts := []string{
		"program 2 2 fold\nbyte 61\nsplit 2 3\njump 4\nbegin\nend\nopen 0\nclose 1\nback 0\nzero 1\nturn 1 2 13 0 10\nmatch\n",
		"program 10 1\nturn 0 0 * 0 0\nbyte 00,41-5a,5c-5f,ff\nbyte none\nmatch\n",
		"program 0 0\njump 0\n",
	}
	right := 0
	for _, s := range texts {
		for at := range len(s) + 1 {
			for _, b := range "\x00\t\n\r ,-*+_0123569abcdfgnoprz.é" {
				if asModel(t, s[:at]+string(b)+s[at:]) {
					right++
				}
				if at < len(s) && asModel(t, s[:at]+string(b)+s[at+1:]) {
					right++
				}
			}
			if at < len(s) {
				asModel(t, s[:at]+s[at+1:])
				asModel(t, s[:at]+"\xff"+s[at+1:])
			}
			asModel(t, s[:at])
			asModel(t, s[at:])
		}
	}
	if right < 100 {
		t.Error(right)
	}
}

// TestRowsOfPieces: P14.4, rows of what texts are made of, and any bytes.
func TestRowsOfPieces(t *testing.T) {
	pieces := []string{"program 1 1\n", "program 0 0\n", "match\n", "jump 0\n", "split 0 1\n", "byte 61\n", "byte none\n", "open 0\n", "turn 0 1 2 0 0\n", "jump ", "0", "1", " ", "\n", "turn", "*", "byte ", "61", ",", "-", "7a", "none", "fold", "x"}
	next := numbers(20)
	told := map[bool]int{}
	for range 60000 {
		s := pieces[next(2)]
		for range next(7) {
			s += pieces[next(len(pieces)-10*next(2))]
		}
		told[asModel(t, s)]++
	}
	for range 20000 {
		b := make([]byte, next(20))
		for i := range b {
			b[i] = byte(next(256))
		}
		asModel(t, string(b))
		asModel(t, "program 0 0\n"+string(b)+"\n")
	}
	if told[true] < 1000 || told[false] < 10000 {
		t.Error(told)
	}
}

// TestErrorsAreNew: P2, an error is nil itself, or a new *api.Bad.
func TestErrorsAreNew(t *testing.T) {
	_, a := code.Read("x")
	_, b := code.Read("x")
	var one, two *api.Bad
	if !errors.As(a, &one) || !errors.As(b, &two) || one == two {
		t.Errorf("%v, %v", a, b)
	}
	one.Code, one.At = api.ErrFull, 99
	if _, c := code.Read("x"); !errors.Is(c, api.ErrText) || *two != (api.Bad{Code: api.ErrText}) {
		t.Errorf("%v, %v", c, two)
	}
	if _, err := code.Read("program 0 0\nmatch\n"); err != nil {
		t.Error(err)
	}
}

// TestReadIsNewMemory: P3, two answers share nothing, spare room neither.
func TestReadIsNewMemory(t *testing.T) {
	s := "program 0 0\njump 1\njump 2\nmatch\n"
	want := program(jump(1), jump(2), match())
	p, _ := code.Read(s)
	q, _ := code.Read(s)
	all := p.Insts[:cap(p.Insts)]
	for i := range all {
		all[i] = api.Inst{Op: 99}
	}
	if !equal(q, want) || slices.Contains(q.Insts[:cap(q.Insts)], api.Inst{Op: 99}) {
		t.Error(q)
	}
	reads(t, s, want)
}
