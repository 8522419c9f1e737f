package scan_test

import (
	"math"
	"reflect"
	"slices"
	"strings"
	"testing"

	"dredge/api"
	"dredge/measure"
	"dredge/scan"
	"dredge/tree"
)

// refusesNew: New tells an error, and nothing beside it.
func refusesNew(t *testing.T, n api.Node, mode api.Mode, room int, want api.Errno) {
	t.Helper()
	if s, e := scan.New(n, mode, room); s != nil || e != want {
		t.Errorf("New of %s, %v, room %d: %v, %v, want %v", brief(n), mode, room, s, e, want)
	}
}

func wrongRooms() []int {
	return []int{math.MinInt, -2, -1, 0, 1, api.MaxRoom + 1, math.MaxInt32, math.MaxInt}
}

// newHolds: what New tells of a tree, at rooms that may be and at such that may not.
func newHolds(t *testing.T, n api.Node, mode api.Mode) api.Errno {
	t.Helper()
	want := tree.Right(n, mode)
	switch {
	case want != api.OK:
	case len(measure.Used(n, mode)) > 0:
		want = api.ErrRefs
	case measure.Size(n, mode) > api.MaxSize:
		want = api.ErrSize
	}
	if want == api.OK {
		ask(t, n, mode, 2)
		refusesNew(t, n, mode, 1, api.ErrArg)
		return want
	}
	for _, room := range append(wrongRooms(), 2, 100, api.MaxRoom) {
		refusesNew(t, n, mode, room, want)
	}
	return want
}

// endless is a tree that is its own Kid.
func endless(n api.Node) api.Node {
	for i := range n.Kids {
		n.Kids[i] = n
	}
	return n
}

// large is a tree of more than MaxSize.
func large() api.Node { return rep(rep(char('-'), 255, 255), 255, 255) }

// TestWrongTrees: P18.1, the errors of Plain, in its order, ahead of a wrong room.
func TestWrongTrees(t *testing.T) {
	for _, c := range []struct {
		n    api.Node
		want api.Errno
	}{
		{api.Node{}, api.ErrTree},
		{api.Node{Kind: api.NRep + 1}, api.ErrTree},
		{api.Node{Kind: -1}, api.ErrTree},
		{api.Node{Kind: api.NSet, N: 1}, api.ErrTree},
		{set(98, 97), api.ErrTree},
		{cat(char('-')), api.ErrTree},
		{cat(char('-'), begin()), api.ErrTree},
		{rep(char('-'), 2, 1), api.ErrTree},
		{group(2, empty()), api.ErrTree},
		{cat(large(), group(2, empty())), api.ErrTree},
		{back(1), api.ErrBack},
		{cat(large(), back(1)), api.ErrBack},
		{cat(group(1, char('-')), back(1)), api.ErrRefs},
		{cat(rep(group(1, char('-')), 0, 0), back(1)), api.ErrRefs},
		{cat(group(1, char('-')), rep(back(1), 0, 0)), api.ErrRefs},
		{cat(large(), group(1, char('-')), back(1)), api.ErrRefs},
		{large(), api.ErrSize},
		{alt(char('-'), large()), api.ErrSize},
		{cat(slices.Repeat([]api.Node{char('-')}, 2000)...), api.ErrMany},
		{endless(cat(char('-'), char('-'))), api.ErrTree},
		{endless(star(char('-'))), api.ErrDeep},
	} {
		for _, mode := range modes() {
			if e := newHolds(t, c.n, mode); e != c.want {
				t.Errorf("%s, %v: %v, want %v", brief(c.n), mode, e, c.want)
			}
		}
	}
}

// TestTreesOfModes: P18.1, trees that are right in some modes alone.
func TestTreesOfModes(t *testing.T) {
	for mode, right := range map[api.Mode][]bool{
		neither: {true, true, false, true}, chars: {true, true, true, true}, fold: {false, true, false, true}, both: {false, true, true, true},
	} {
		for i, n := range []api.Node{char('a'), set('A', 'A', 'a', 'a'), char(256), char('-')} {
			if e := newHolds(t, n, mode); (e == api.OK) != right[i] {
				t.Errorf("%s, %v: %v", brief(n), mode, e)
			}
		}
	}
}

// TestSpoiltTrees: P18.1, trees with a wrong number in them.
func TestSpoiltTrees(t *testing.T) {
	next := numbers(5)
	told := map[api.Errno]int{}
	for i := range 2000 {
		mk := &maker{next: next, mode: modes()[i%4]}
		n := mk.pattern(1)
		l := spots(&n)
		s, by := l[next(len(l))], []int{-1, 1, -300, 300}[next(4)]
		field := []*int{&s.Kind, &s.N, &s.Min, &s.Max}[next(4)]
		*field += by
		told[newHolds(t, n, mk.mode)]++
	}
	if told[api.OK] < 10 || told[api.ErrTree] < 500 {
		t.Errorf("%v", told)
	}
}

// TestWrongRooms: P18.1, the last of the errors.
func TestWrongRooms(t *testing.T) {
	for _, mode := range modes() {
		for _, n := range []api.Node{star(char('-')), empty(), set()} {
			for _, room := range wrongRooms() {
				refusesNew(t, n, mode, room, api.ErrArg)
			}
			for _, room := range []int{2, 3, api.MaxRoom - 1, api.MaxRoom} {
				ask(t, n, mode, room)
			}
		}
	}
}

// sized is a tree of turns and so many bytes behind them.
func sized(turns, bytes int) api.Node {
	n := cat(rep(group(1, rep(char('-'), 255, 255)), 12, 12), rep(char('-'), turns, turns))
	for range bytes {
		n.Kids = append(n.Kids, char('-'))
	}
	return n
}

// TestSizes: P18.1, a tree of the greatest size, and of one more; with Chars a range above 127 counts as 16.
func TestSizes(t *testing.T) {
	great, more := sized(250, 10), sized(251, 9)
	for _, mode := range modes() {
		if size := measure.Size(great, mode); size != api.MaxSize {
			t.Fatalf("the size %d", size)
		}
		line := strings.Repeat("-", 12*255+250+10)
		a := ask(t, great, mode, 2)
		a.tells("0"+line+"-", 0, 1, 1+len(line))
		a.none(line[1:]+"0", 0)
		refusesNew(t, more, mode, 2, api.ErrSize)
	}
	n := rep(group(1, rep(char(0xe9), 11, 11)), 50, 50)
	ask(t, n, neither, 2).tells("x"+strings.Repeat("\xe9", 551), 1, 1, 551)
	refusesNew(t, n, chars, 2, api.ErrSize)
	n = rep(n.Kids[0], 49, 49)
	ask(t, n, chars, 2).tells("x"+strings.Repeat("é", 540), 1, 1, 1+2*539)
}

// roomy is a copy of a tree: behind each of its lists stands one thing more.
func roomy(n api.Node) api.Node {
	n.Ranges = append(slices.Clone(n.Ranges), api.Range{Lo: 7, Hi: 9})[:len(n.Ranges)]
	n.Kids = append(slices.Clone(n.Kids), char('!'))[:len(n.Kids)]
	for i := range n.Kids {
		n.Kids[i] = roomy(n.Kids[i])
	}
	return n
}

// TestTreeNotKept: P18.1 and P3, who writes into the tree behind New changes nothing; nothing is written into it, nor behind it.
func TestTreeNotKept(t *testing.T) {
	for _, mode := range modes() {
		n := roomy(of(t, `\(^-*\|[0-9é]\{2\}x\|\)*$`, mode))
		was := copied(n)
		s := ask(t, n, mode, 3)
		line := "--ab12x" + "00x"
		want, _ := readingOf(line, mode).find(n, 0)
		s.tells(line, 0, want.From, want.To)
		if !reflect.DeepEqual(copied(n), was) {
			t.Fatalf("%v: the tree was %s, and is %s", mode, brief(was), brief(n))
		}
		for _, spot := range spots(&n) {
			behind := spot.Ranges[:len(spot.Ranges)+1]
			kid := spot.Kids[:len(spot.Kids)+1]
			if behind[len(behind)-1] != (api.Range{Lo: 7, Hi: 9}) || !tree.Same(kid[len(kid)-1], char('!')) {
				t.Fatalf("%v: behind the tree stands %v, %v", mode, behind, kid)
			}
		}
		late := ask(t, n, mode, 3)
		for _, spot := range spots(&n) {
			clear(spot.Ranges)
			spot.Kind, spot.Min, spot.Max = api.NEmpty, 0, 0
		}
		for _, a := range []asked{s, late} {
			a.tells(line, 0, want.From, want.To)
		}
	}
}

// TestFaces: what a scan can be asked is what the chapter names; its automata's calls are none of its own.
func TestFaces(t *testing.T) {
	face := reflect.TypeOf(&scan.Scan{})
	var names []string
	for i := range face.NumMethod() {
		names = append(names, face.Method(i).Name)
	}
	if !slices.Equal(names, []string{"Find", "Steps"}) {
		t.Errorf("%v", names)
	}
	for i := range face.Elem().NumField() {
		if f := face.Elem().Field(i); f.IsExported() {
			t.Errorf("the field %s", f.Name)
		}
	}
}
