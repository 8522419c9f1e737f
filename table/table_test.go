package table_test

import (
	"iter"
	"math"
	"slices"
	"testing"

	"dredge/api"
	"dredge/table"
)

// entry is a key and its value.
type entry struct {
	key   []int
	value int
}

// model is a table written out as its entries in order, so that the calls are held against something that has no places. greatest is the greatest Len since New, or since the last Clear.
type model struct {
	width, most int
	entries     []entry
	greatest    int
}

func (m *model) find(key []int) (int, bool) {
	return slices.BinarySearchFunc(m.entries, key, func(e entry, key []int) int { return slices.Compare(e.key, key) })
}

func (m *model) put(key []int, value int) api.Errno {
	if len(key) != m.width {
		return api.ErrKey
	}
	i, there := m.find(key)
	if there {
		m.entries[i].value = value
		return api.OK
	}
	if len(m.entries) == m.most {
		return api.ErrFull
	}
	m.entries = slices.Insert(m.entries, i, entry{slices.Clone(key), value})
	m.greatest = max(m.greatest, len(m.entries))
	return api.OK
}

func (m *model) get(key []int) (int, bool) {
	i, there := m.find(key)
	if !there {
		return 0, false
	}
	return m.entries[i].value, true
}

func (m *model) drop(key []int) bool {
	i, there := m.find(key)
	if there {
		m.entries = slices.Delete(m.entries, i, i+1)
	}
	return there
}

func (m *model) clear() { m.entries, m.greatest = nil, 0 }

// pair is a table and its model; what is done to the one is done to the other.
type pair struct {
	t    *testing.T
	x    *table.Table
	want model
}

// made is an empty table of a width and a most, with its model.
func made(t *testing.T, width, most int) *pair {
	t.Helper()
	x, e := table.New(width, most)
	if x == nil || e != api.OK {
		t.Fatalf("New(%d, %d): %v, %v", width, most, x, e)
	}
	return &pair{t, x, model{width: width, most: most}}
}

func (p *pair) put(key []int, value int) {
	p.t.Helper()
	was := slices.Clone(key)
	if got, want := p.x.Put(key, value), p.want.put(key, value); got != want {
		p.t.Fatalf("Put(%v, %d): %v, not %v; there are %v", key, value, got, want, p.want.entries)
	}
	if !slices.Equal(key, was) {
		p.t.Fatalf("Put(%v) wrote into its key: %v", was, key)
	}
	p.counts()
}

func (p *pair) drop(key []int) {
	p.t.Helper()
	was := slices.Clone(key)
	if got, want := p.x.Drop(key), p.want.drop(key); got != want {
		p.t.Fatalf("Drop(%v): %v, not %v; there are %v", key, got, want, p.want.entries)
	}
	if !slices.Equal(key, was) {
		p.t.Fatalf("Drop(%v) wrote into its key: %v", was, key)
	}
	p.counts()
}

func (p *pair) clear() {
	p.t.Helper()
	p.x.Clear()
	p.want.clear()
	p.counts()
}

// gets asks for keys, those that are there and others.
func (p *pair) gets(keys ...[]int) {
	p.t.Helper()
	for _, key := range keys {
		value, there := p.want.get(key)
		if got, ok := p.x.Get(key); got != value || ok != there {
			p.t.Fatalf("Get(%v): %d, %v, not %d, %v; there are %v", key, got, ok, value, there, p.want.entries)
		}
	}
}

// counts holds Len and Slots against what is promised of them.
func (p *pair) counts() {
	p.t.Helper()
	if p.x.Len() != len(p.want.entries) {
		p.t.Fatalf("Len: %d, not %d", p.x.Len(), len(p.want.entries))
	}
	s := p.x.Slots()
	if s < 2*p.x.Len() || s > 16+8*p.want.greatest || s&(s-1) != 0 {
		p.t.Fatalf("Slots: %d; Len is %d, and was at most %d", s, p.x.Len(), p.want.greatest)
	}
}

// holds asks by every call that only asks.
func (p *pair) holds() {
	p.t.Helper()
	p.counts()
	same(p.t, "All", told(p.x.All()), p.want.entries)
	for _, e := range p.want.entries {
		p.gets(e.key)
	}
}

// told is what an iterator goes over.
func told(all iter.Seq2[[]int, int]) []entry {
	var l []entry
	for key, value := range all {
		l = append(l, entry{key, value})
	}
	return l
}

func same(t *testing.T, what string, got, want []entry) {
	t.Helper()
	if !slices.EqualFunc(got, want, func(a, b entry) bool { return slices.Equal(a.key, b.key) && a.value == b.value }) {
		t.Errorf("%s: %v, not %v", what, got, want)
	}
}

// wide is a key of a width, whose numbers are all the same.
func wide(width, n int) []int { return slices.Repeat([]int{n}, width) }

// strewn is a row of numbers in no order, the same for each seed.
func strewn(seed uint64) func(below int) int {
	state := seed
	return func(below int) int {
		state = state*6364136223846793005 + 1442695040888963407
		return int(state>>33) % below
	}
}

// TestNew: P3.1.
func TestNew(t *testing.T) {
	for _, width := range []int{0, 1, 2, api.MaxWidth - 1, api.MaxWidth} {
		for _, most := range []int{0, 1, 2, api.MaxEntries - 1, api.MaxEntries} {
			p := made(t, width, most)
			p.holds()
			p.gets(wide(width, 0), wide(width, 1), wide(width, -1))
			if s := p.x.Slots(); s > 16 {
				t.Errorf("New(%d, %d): Slots %d", width, most, s)
			}
		}
	}
	wrong := []int{-1, -2, math.MinInt32, math.MinInt, math.MaxInt32, math.MaxInt}
	for _, n := range append(wrong, api.MaxWidth+1) {
		for _, most := range []int{0, 1, api.MaxEntries, -1} {
			if x, e := table.New(n, most); x != nil || e != api.ErrArg {
				t.Errorf("New(%d, %d): %v, %v", n, most, x, e)
			}
		}
	}
	for _, n := range append(wrong, api.MaxEntries+1) {
		for _, width := range []int{0, 1, api.MaxWidth, -1} {
			if x, e := table.New(width, n); x != nil || e != api.ErrArg {
				t.Errorf("New(%d, %d): %v, %v", width, n, x, e)
			}
		}
	}
}

// TestExamples: the chapter's.
func TestExamples(t *testing.T) {
	p := made(t, 2, 2)
	for _, c := range []struct {
		key   []int
		value int
		e     api.Errno
	}{{[]int{1, 2}, 7, api.OK}, {[]int{1, 2}, 8, api.OK}, {[]int{0, 9}, 1, api.OK}, {[]int{3, 3}, 3, api.ErrFull}} {
		if e := p.x.Put(c.key, c.value); e != c.e {
			t.Errorf("Put(%v, %d): %v, not %v", c.key, c.value, e, c.e)
		}
	}
	for _, c := range []struct {
		key   []int
		value int
		there bool
	}{{[]int{1, 2}, 8, true}, {[]int{3, 3}, 0, false}, {[]int{1}, 0, false}} {
		if v, ok := p.x.Get(c.key); v != c.value || ok != c.there {
			t.Errorf("Get(%v): %d, %v", c.key, v, ok)
		}
	}
	if e := p.x.Put([]int{1}, 4); e != api.ErrKey {
		t.Errorf("Put([1], 4): %v", e)
	}
	same(t, "All", told(p.x.All()), []entry{{[]int{0, 9}, 1}, {[]int{1, 2}, 8}})
	if !p.x.Drop([]int{0, 9}) || p.x.Drop([]int{0, 9}) || p.x.Put([]int{3, 3}, 3) != api.OK || p.x.Len() != 2 {
		t.Error("Drop([0 9]), and behind it")
	}
	z := made(t, 0, 1).x
	if e := z.Put([]int{}, 5); e != api.OK {
		t.Errorf("Put([], 5): %v", e)
	}
	if v, ok := z.Get(nil); v != 5 || !ok {
		t.Errorf("Get(nil): %d, %v", v, ok)
	}
	if e := z.Put([]int{}, 6); e != api.OK || z.Len() != 1 {
		t.Errorf("Put([], 6): %v; Len %d", e, z.Len())
	}
	if e := made(t, 2, 0).x.Put([]int{1, 2}, 3); e != api.ErrFull {
		t.Errorf("Put([1 2], 3) at most 0: %v", e)
	}
	for _, c := range [][2]int{{129, 1}, {1, -1}, {1, 1000001}} {
		if x, e := table.New(c[0], c[1]); x != nil || e != api.ErrArg {
			t.Errorf("New%v: %v, %v", c, x, e)
		}
	}
}

// TestOtherWidth: P3.2, keys of another width: nothing changes, and nothing is found, in a table that is empty, has room, or is full.
func TestOtherWidth(t *testing.T) {
	for _, width := range []int{0, 1, 2, 3, api.MaxWidth} {
		for _, most := range []int{0, 1, 2} {
			p := made(t, width, most)
			for fill := range most + 1 {
				slots := p.x.Slots()
				for _, other := range []int{0, 1, 2, 3, 4, api.MaxWidth - 1, api.MaxWidth, api.MaxWidth + 1, 1000} {
					if other == width {
						continue
					}
					key := wide(other, fill)
					if e := p.x.Put(key, 5); e != api.ErrKey {
						t.Errorf("width %d, %d of %d: Put of %d numbers: %v", width, fill, most, other, e)
					}
					if v, ok := p.x.Get(key); v != 0 || ok {
						t.Errorf("width %d: Get of %d numbers: %d, %v", width, other, v, ok)
					}
					if p.x.Drop(key) {
						t.Errorf("width %d: Drop of %d numbers", width, other)
					}
				}
				p.holds()
				if p.x.Slots() != slots {
					t.Errorf("width %d: Slots %d behind refused keys, not %d", width, p.x.Slots(), slots)
				}
				p.put(wide(width, fill+1), 10+fill)
			}
		}
	}
}

// TestNoKey: P3.2, the width 0: nil and empty are one key.
func TestNoKey(t *testing.T) {
	for _, most := range []int{0, 1, 2, api.MaxEntries} {
		for _, key := range [][]int{nil, {}, make([]int, 0, 3), wide(2, 1)[:0]} {
			p := made(t, 0, most)
			p.gets(nil, []int{})
			p.drop(key)
			p.put(key, 5)
			p.gets(nil, []int{}, key)
			p.put([]int{}, 6)
			p.put(nil, 7)
			p.holds()
			p.drop(key)
			p.gets(nil, []int{})
			p.put(key, 0)
			p.holds()
			p.clear()
			p.gets(nil, []int{}, key)
			p.holds()
		}
	}
}

// TestPutTwice: P3.2 and P3.5, a key that is there gets another value, and no other key does; also where there is no room.
func TestPutTwice(t *testing.T) {
	for _, most := range []int{1, 2, 5, 8, 9, 40} {
		p := made(t, 2, most)
		for i := range most {
			p.put([]int{i, -i}, i)
			p.put([]int{i, -i}, i+100)
			p.holds()
		}
		slots := p.x.Slots()
		for i := range most {
			p.put([]int{i, -i}, math.MinInt+i)
			p.holds()
			p.put([]int{i, i + 1}, 1)
		}
		p.holds()
		if p.x.Slots() != slots {
			t.Errorf("most %d: Slots %d, not %d, though no entry came", most, p.x.Slots(), slots)
		}
	}
}

// TestFull: P3.2, ErrFull changes nothing; behind Drop and behind Clear there is room again.
func TestFull(t *testing.T) {
	for _, most := range []int{0, 1, 2, 8, 9, 16, 17, 100} {
		p := made(t, 1, most)
		for i := range most {
			p.put([]int{i}, i)
		}
		slots := p.x.Slots()
		for i := most; i < 2*most+3; i++ {
			if e := p.x.Put([]int{i}, i); e != api.ErrFull {
				t.Errorf("Put(%d) at most %d: %v", i, most, e)
			}
			p.gets([]int{i})
		}
		p.holds()
		if p.x.Slots() != slots {
			t.Errorf("most %d: Slots %d behind ErrFull, not %d", most, p.x.Slots(), slots)
		}
		for i := range most {
			p.drop([]int{i})
			p.drop([]int{i})
			p.gets([]int{i})
			p.put([]int{-1 - i}, i)
			p.put([]int{i}, i)
			p.holds()
		}
		p.clear()
		for i := range most + 1 {
			p.put([]int{1000 + i}, i)
		}
		p.holds()
	}
}

// TestFullToTheBrim: P3.1 and P3.2, as many entries as there may be.
func TestFullToTheBrim(t *testing.T) {
	x := made(t, 1, api.MaxEntries).x
	for i := range api.MaxEntries {
		if e := x.Put([]int{i << 10}, i); e != api.OK {
			t.Fatalf("Put %d: %v", i, e)
		}
	}
	if e := x.Put([]int{-1}, 0); e != api.ErrFull || x.Len() != api.MaxEntries || x.Slots() < 2*api.MaxEntries {
		t.Errorf("one more: %v; Len %d, Slots %d", e, x.Len(), x.Slots())
	}
	for i := range api.MaxEntries {
		if v, ok := x.Get([]int{i << 10}); v != i || !ok {
			t.Fatalf("Get %d: %d, %v", i, v, ok)
		}
	}
	if !x.Drop([]int{0}) || x.Put([]int{-1}, 0) != api.OK || x.Put([]int{0}, 0) != api.ErrFull {
		t.Error("Drop, and Put behind it")
	}
}

// TestValues: P3.2, values are any ints, 0 among them.
func TestValues(t *testing.T) {
	p := made(t, 1, 10)
	for i, v := range []int{0, 1, -1, math.MaxInt, math.MinInt, math.MaxInt32, math.MinInt32} {
		p.put([]int{i}, v)
		p.put([]int{99}, v)
		p.holds()
	}
	if v, ok := p.x.Get([]int{0}); v != 0 || !ok {
		t.Errorf("Get of a key with the value 0: %d, %v", v, ok)
	}
}

// TestKeysDiffer: P3.2, keys that differ in one number, or in the order of their numbers, are others.
func TestKeysDiffer(t *testing.T) {
	p := made(t, api.MaxWidth, 3*api.MaxWidth)
	for i := range api.MaxWidth {
		for j, n := range []int{1, -1, math.MinInt} {
			key := wide(api.MaxWidth, 0)
			key[i] = n
			p.gets(key)
			p.put(key, 3*i+j)
		}
	}
	p.holds()
	q := made(t, 3, 27)
	for i := range 27 {
		q.put([]int{i / 9, i / 3 % 3, i % 3}, i)
	}
	q.holds()
	if q.x.Len() != 27 {
		t.Errorf("Len: %d, not 27", q.x.Len())
	}
}

// TestOrder: P3.3, the least and the greatest int among the numbers.
func TestOrder(t *testing.T) {
	numbers := []int{math.MaxInt, 0, -1, math.MinInt, 1, math.MinInt + 1, math.MaxInt - 1, math.MaxInt32, math.MinInt32}
	one, two := made(t, 1, 100), made(t, 2, 100)
	for i, a := range numbers {
		one.put([]int{a}, i)
		for j, b := range numbers {
			two.put([]int{a, b}, 10*i+j)
		}
	}
	one.holds()
	two.holds()
	x := made(t, 2, 10).x
	for i, key := range [][]int{{1, math.MinInt}, {math.MinInt, math.MaxInt}, {math.MaxInt, 0}, {-1, -1}, {-1, -2}, {1, math.MaxInt}, {math.MinInt, math.MinInt}, {0, 0}} {
		x.Put(key, i)
	}
	same(t, "All", told(x.All()), []entry{{[]int{math.MinInt, math.MinInt}, 6}, {[]int{math.MinInt, math.MaxInt}, 1}, {[]int{-1, -2}, 4}, {[]int{-1, -1}, 3}, {[]int{0, 0}, 7}, {[]int{1, math.MinInt}, 0}, {[]int{1, math.MaxInt}, 5}, {[]int{math.MaxInt, 0}, 2}})
}

// TestOrderOfComing: P3.3 and P4, the order is the keys', whatever the order in which they came and went.
func TestOrderOfComing(t *testing.T) {
	next := strewn(7)
	for range 50 {
		up, down := made(t, 2, 100), made(t, 2, 100)
		var keys [][]int
		for range next(60) {
			keys = append(keys, []int{next(9) - 4, next(9) - 4})
		}
		for i, key := range keys {
			up.put(key, 10*key[0]+key[1])
			down.put(keys[len(keys)-1-i], 0)
		}
		for i := len(keys) - 1; i >= 0; i-- {
			down.drop(keys[i])
			down.put(keys[i], 10*keys[i][0]+keys[i][1])
		}
		same(t, "All", told(up.x.All()), told(down.x.All()))
	}
}

// TestTaken: P3.2 and P3.5, keys that find their places taken: of every few keys out of many each is dropped once, and the others are found still. With eight entries in sixteen places most of them stand in one another's way.
func TestTaken(t *testing.T) {
	for _, step := range []int{1, 16, 64, 1 << 16, 1 << 32, 1 << 40, math.MaxInt / 100, -3} {
		for from := range 40 {
			for gone := range 8 {
				p := made(t, 1, 8)
				var keys [][]int
				for i := range 8 {
					keys = append(keys, []int{(from + i) * step})
					p.put(keys[i], i)
				}
				p.drop(keys[gone])
				p.gets(keys...)
				p.drop(keys[(gone+3)%8])
				p.gets(keys...)
				p.put(keys[gone], 50)
				p.holds()
			}
		}
	}
}

// TestComeAndGo: P3.2 to P3.5, many keys come and go, against the model, in tables of several widths and with several ways of strewing the keys.
func TestComeAndGo(t *testing.T) {
	for _, c := range []struct{ width, most, numbers, step int }{
		{1, 8, 20, 1}, {1, 1000, 300, 64}, {1, 100, 300, 1 << 32}, {1, 300, 300, 1 << 55}, {2, 50, 9, 1}, {2, 1000, 20, 1024},
		{3, 1000, 7, -1}, {7, 500, 2, 1 << 20}, {128, 100, 2, 1},
	} {
		p := made(t, c.width, c.most)
		next := strewn(uint64(c.width*1000 + c.most))
		pick := func() []int {
			key := make([]int, c.width)
			for i := range min(c.width, 9) {
				key[len(key)-1-i] = (next(c.numbers) - c.numbers/2) * c.step
			}
			return key
		}
		for turn := range 6000 {
			switch n := next(100); {
			case n < 50:
				p.put(pick(), turn)
			case n < 88:
				p.drop(pick())
			case n < 99:
				p.gets(pick())
			case next(10) == 0:
				p.clear()
			default:
				p.holds()
			}
		}
		p.holds()
	}
}

// TestDrain: P3.4 and P3.5, all that came goes again, from either end; what is left is found.
func TestDrain(t *testing.T) {
	for _, turned := range []bool{false, true} {
		p := made(t, 2, 3000)
		var keys [][]int
		for i := range 1500 {
			keys = append(keys, []int{i % 5, 64 * i})
			p.put(keys[i], i)
		}
		if turned {
			slices.Reverse(keys)
		}
		for i, key := range keys {
			p.drop(key)
			p.gets(key)
			if i%100 == 0 {
				p.holds()
			}
		}
		p.holds()
		if p.x.Len() != 0 {
			t.Errorf("Len %d, though all were dropped", p.x.Len())
		}
	}
}

// TestSlots: P3.4, behind New, while the table grows, behind Drop and behind Clear; counts asks it in every put and drop.
func TestSlots(t *testing.T) {
	p := made(t, 1, 5000)
	for round := range 3 {
		p.counts()
		if s := p.x.Slots(); s > 16 {
			t.Fatalf("round %d: Slots %d of an empty table", round, s)
		}
		for i := range 2000 >> round {
			p.put([]int{i}, i)
		}
		for i := range 2000 >> round {
			p.drop([]int{i})
		}
		// The greatest Len counts, not this one; one by one the entries need no more places.
		for i := range 100 {
			p.put([]int{-i}, i)
			p.drop([]int{-i})
		}
		p.put([]int{7}, 7)
		p.clear()
	}
	// Few entries at a time, however many there were in all.
	q := made(t, 1, 5000)
	for i := range 5000 {
		q.put([]int{i}, i)
		q.drop([]int{i - 1})
	}
	if s := q.x.Slots(); s > 32 {
		t.Errorf("Slots %d, with two entries at most", s)
	}
}

// TestClear: P3.2, behind Clear there is nothing, and the table is as good as new.
func TestClear(t *testing.T) {
	for _, many := range []int{0, 1, 7, 8, 9, 100} {
		p := made(t, 2, 100)
		p.clear()
		for round := range 3 {
			for i := range many {
				p.put([]int{i, round}, i)
			}
			p.clear()
			for i := range many {
				p.gets([]int{i, round})
				p.drop([]int{i, round})
			}
			p.holds()
			p.clear()
			p.put([]int{0, round}, 9)
			p.put([]int{1, 0}, 8)
			p.holds()
		}
	}
}

// filled is a table of width 2 with a few entries.
func filled(t *testing.T, many int) *pair {
	t.Helper()
	p := made(t, 2, 1000)
	for i := range many {
		p.put([]int{i * 7 % many, i}, 100+i)
	}
	return p
}

// TestAllLeftEarly: P3 and P3.3.
func TestAllLeftEarly(t *testing.T) {
	p := filled(t, 20)
	all := p.x.All()
	for stop := range 21 {
		var l []entry
		for key, value := range all {
			if len(l) == stop {
				break
			}
			l = append(l, entry{key, value})
		}
		same(t, "left early", l, p.want.entries[:stop])
	}
	same(t, "gone over again", told(all), p.want.entries)
	for range made(t, 1, 1).x.All() {
		t.Error("All of an empty table")
	}
	p.holds()
}

// TestAllWithin: P3 and P3.3, one iterator within itself.
func TestAllWithin(t *testing.T) {
	p := filled(t, 12)
	all := p.x.All()
	var outer []entry
	for key, value := range all {
		outer = append(outer, entry{key, value})
		same(t, "within", told(all), p.want.entries)
		for range all {
			break
		}
	}
	same(t, "around", outer, p.want.entries)
}

// TestAllInTheMidst: P3 and P3.3, calls within the range do not show in it; they show in the next one, and in one that begins in its midst.
func TestAllInTheMidst(t *testing.T) {
	for _, many := range []int{1, 5, 8, 12, 100} {
		for name, do := range map[string]func(p *pair, turn int){
			"Put of new ones":   func(p *pair, turn int) { p.put([]int{turn, -1 - turn}, 1) },
			"Put of those ones": func(p *pair, turn int) { p.put(p.want.entries[len(p.want.entries)-1-turn].key, -turn) },
			"Drop":              func(p *pair, turn int) { p.drop(p.want.entries[len(p.want.entries)-1].key) },
			"Drop of the first": func(p *pair, turn int) { p.drop(p.want.entries[0].key) },
			"Clear":             func(p *pair, turn int) { p.clear() },
			"Clear and Put": func(p *pair, turn int) {
				p.clear()
				p.put([]int{turn, turn}, turn)
				p.put([]int{0, 0}, turn)
			},
		} {
			p := filled(t, many)
			was := slices.Clone(p.want.entries)
			var l []entry
			all := p.x.All()
			for key, value := range all {
				do(p, len(l))
				l = append(l, entry{key, value})
				same(t, name+", in its midst", told(all), p.want.entries)
			}
			same(t, name, l, was)
			same(t, name+", again", told(all), p.want.entries)
			p.holds()
		}
	}
}

// TestAllMadeLongAgo: P3, what there is when the range begins counts, not what there was when the function was made.
func TestAllMadeLongAgo(t *testing.T) {
	p := made(t, 2, 100)
	all := p.x.All()
	same(t, "of none", told(all), nil)
	for i := range 50 {
		p.put([]int{i % 3, -i}, i)
	}
	same(t, "behind Put", told(all), p.want.entries)
	p.drop([]int{0, 0})
	same(t, "behind Drop", told(all), p.want.entries)
	p.clear()
	same(t, "behind Clear", told(all), nil)
	p.put([]int{1, 2}, 3)
	same(t, "behind Put again", told(all), p.want.entries)
}

// TestKeyHandedIn: P3, a key is not kept, nor written into, nor what stands behind it in its array.
func TestKeyHandedIn(t *testing.T) {
	p := made(t, 2, 100)
	row := []int{1, 2, 3, 4}
	asked := func(what string) {
		if !slices.Equal(row, []int{1, 2, 3, 4}) {
			t.Errorf("%s wrote into the key's array: %v", what, row)
		}
	}
	p.put(row[:2], 5)
	asked("Put")
	p.put(row[1:3], 6)
	p.gets(row[:2], row[2:])
	asked("Get")
	p.drop(row[1:3])
	asked("Drop")
	row[0], row[1] = 8, 9
	p.gets([]int{1, 2}, []int{8, 9})
	p.holds()
	// One array for all keys, as those who call often have it.
	key := make([]int, 2)
	for i := range 50 {
		key[0], key[1] = -i, i
		p.put(key, i)
	}
	p.holds()
	for i := range 25 {
		key[0], key[1] = -2*i, 2*i
		p.put(key, -i)
		key[0], key[1] = -2*i-1, 2*i+1
		p.drop(key)
	}
	p.holds()
}

// TestKeyTold: P3 and P3.3, each key that All tells is new memory, its spare room too.
func TestKeyTold(t *testing.T) {
	for _, width := range []int{0, 1, 2, 3, 5} {
		p := made(t, width, 100)
		for i := range 40 {
			p.put(wide(width, i), i)
		}
		var kept [][]int
		all := p.x.All()
		for key := range all {
			kept = append(kept, key)
			for i := range key[:cap(key)] {
				key[:cap(key)][i] = -77
			}
			_ = append(key, -78, -79)
		}
		p.holds()
		for range all {
			break
		}
		for i, key := range kept {
			for j := range key {
				key[j] = i
			}
		}
		for i, key := range kept {
			if !slices.Equal(key, wide(width, i)) {
				t.Errorf("width %d: two keys share memory: %v at %d", width, key, i)
			}
		}
		p.holds()
	}
}

// TestTwoTables: P4, what is done to one table does not show in another.
func TestTwoTables(t *testing.T) {
	p, q := made(t, 1, 10), made(t, 1, 10)
	for i := range 10 {
		p.put([]int{i}, i)
		q.put([]int{i}, -i)
	}
	p.drop([]int{3})
	q.put([]int{4}, 44)
	p.holds()
	q.holds()
	p.clear()
	q.holds()
}
