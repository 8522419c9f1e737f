package code_test

import (
	"slices"
	"testing"

	"dredge/api"
	"dredge/code"
)

// TestExamples: the chapter's examples that ask this layer's calls.
func TestExamples(t *testing.T) {
	loop := program(split(1, 3), byteOf(only('a')), jump(0), match())
	isRight(t, loop)
	if s, e := code.Text(loop); s != "program 0 0\nsplit 1 3\nbyte 61\njump 0\nmatch\n" || e != api.OK || !code.Free(loop) {
		t.Errorf("%q, %v, %v", s, e, code.Free(loop))
	}
	isTold(t, program(), api.ErrCode, 0)
	isTold(t, program(byteOf(only('a'))), api.ErrCode, 0)
	isTold(t, program(api.Inst{Op: api.OpJump, X: 1, N: 5}, match()), api.ErrCode, 0)
	isTold(t, program(open(0), match()), api.ErrCode, 0)
	isTold(t, with(program(open(0), match()), 31, 0), api.ErrArg, 0)
	isRight(t, program(jump(0)))
	isRight(t, with(program(zero(0), turn(0, 2, 2, 2, 3), jump(1), match()), 0, 1))
	isRight(t, with(program(zero(0), turn(0, 2, api.Infinite, 2, 3), jump(1), match()), 0, 1))
	isRight(t, folded(with(program(open(0), byteOf(span('a', 'z')), closed(0), back(0), match()), 1, 0)))
}

// TestRightOfTheWhole: P14.1, what is asked ahead of the instructions, and in which order.
func TestRightOfTheWhole(t *testing.T) {
	isRight(t, program(match()))
	isRight(t, with(program(match()), 30, 40))
	isRight(t, folded(program(match())))
	isRight(t, program(many(match(), 40000)...))
	isTold(t, program(many(match(), 40001)...), api.ErrMany, 0)
	isTold(t, program(many(api.Inst{}, 40001)...), api.ErrMany, 0)
	isTold(t, with(program(many(match(), 40001)...), -1, 0), api.ErrMany, 0)
	isTold(t, with(program(many(match(), 40001)...), 0, 41), api.ErrMany, 0)
	isTold(t, with(program(many(api.Inst{}, 40000)...), 0, 41), api.ErrArg, 0)
	isTold(t, api.Program{Insts: []api.Inst{}}, api.ErrCode, 0)
	for _, n := range append(extremes(), -30, -40) {
		if n != 31 {
			isTold(t, with(program(match()), 0, n), api.ErrArg, 0)
		}
		isTold(t, with(program(match()), n, 0), api.ErrArg, 0)
		isTold(t, with(program(), n, 0), api.ErrArg, 0)
		isTold(t, with(program(match(), api.Inst{}), n, 40), api.ErrArg, 0)
	}
	isRight(t, with(program(match()), 0, 31))
	isTold(t, with(program(), 30, 40), api.ErrCode, 0)
}

// TestRightOfOne: P14.1, each operation with all small fields, ahead of another instruction and as the last one.
func TestRightOfOne(t *testing.T) {
	count := map[api.Errno]int{}
	for op := -1; op <= 13; op++ {
		for in := range fieldsOf(op) {
			for many := range 9 {
				for at := range 2 {
					insts := []api.Inst{match(), match()}
					insts[at] = in
					p := with(program(insts...), many/3, many%3)
					e, k := code.Right(p)
					want, place := modelRight(p)
					if e != want || k != place {
						t.Fatalf("Right(%v): %v, %d, want %v, %d", p, e, k, want, place)
					}
					count[e]++
				}
			}
		}
	}
	if count[api.OK] < 500 || count[api.ErrCode] < 100000 {
		t.Error(count)
	}
}

// fieldsOf goes over instructions of an operation, with noughts and other numbers in all fields.
func fieldsOf(op int) func(yield func(api.Inst) bool) {
	return func(yield func(api.Inst) bool) {
		places := []int{-1, 0, 1, 2}
		for _, x := range places {
			for _, y := range places {
				for _, n := range places {
					for _, least := range []int{-1, 0, 2, 255, 256} {
						for _, most := range []int{-2, -1, 0, 1, 2, 255, 256} {
							for _, set := range []api.Set{{}, {0, 0, 0, 1 << 63}} {
								if !yield(api.Inst{Op: op, X: x, Y: y, N: n, Min: least, Max: most, Set: set}) {
									return
								}
							}
						}
					}
				}
			}
		}
	}
}

// TestUnusedFields: P14.1, a field that is not used must be 0, each by itself, in each operation, whatever is in it.
func TestUnusedFields(t *testing.T) {
	p := oneOfEach()
	isRight(t, p)
	for at, in := range p.Insts {
		r := rows[in.Op]
		for _, n := range append(extremes(), 1) {
			for _, c := range []struct {
				used bool
				set  func(*api.Inst)
			}{
				{r.x, func(in *api.Inst) { in.X = n }},
				{r.y, func(in *api.Inst) { in.Y = n }},
				{r.group || r.counter, func(in *api.Inst) { in.N = n }},
				{r.bounds, func(in *api.Inst) { in.Min = n }},
				{r.bounds, func(in *api.Inst) { in.Max = n }},
				{r.set, func(in *api.Inst) { in.Set = only(n & 255) }},
			} {
				if !c.used {
					q := p
					q.Insts = slices.Clone(p.Insts)
					c.set(&q.Insts[at])
					isTold(t, q, api.ErrCode, at)
				}
			}
		}
	}
}

// TestUsedFields: P14.1, fields that are used and may not be so, out to the least and greatest number.
func TestUsedFields(t *testing.T) {
	for _, n := range append(extremes(), 3) {
		isTold(t, program(match(), split(n, 0), match()), api.ErrCode, 1)
		isTold(t, program(match(), split(2, n), match()), api.ErrCode, 1)
		isTold(t, program(match(), match(), jump(n)), api.ErrCode, 2)
		isTold(t, with(program(turn(0, 0, 0, n, 0)), 0, 1), api.ErrCode, 0)
		isTold(t, with(program(turn(0, 0, 0, 0, n)), 0, 1), api.ErrCode, 0)
		isTold(t, with(program(open(n), match()), 3, 40), api.ErrCode, 0)
		isTold(t, with(program(closed(n), match()), 3, 40), api.ErrCode, 0)
		isTold(t, with(program(back(n), match()), 3, 40), api.ErrCode, 0)
		isTold(t, with(program(zero(n), match()), 30, 3), api.ErrCode, 0)
		isTold(t, with(program(turn(n, 0, 0, 0, 0)), 30, 3), api.ErrCode, 0)
		if n < 0 || n > 255 {
			isTold(t, with(program(turn(0, n, api.Infinite, 0, 0)), 0, 1), api.ErrCode, 0)
			isTold(t, with(program(turn(0, n, n, 0, 0)), 0, 1), api.ErrCode, 0)
		}
		if n < api.Infinite || n > 255 {
			isTold(t, with(program(turn(0, 0, n, 0, 0)), 0, 1), api.ErrCode, 0)
		}
	}
	for _, op := range append(extremes(), 0, 12, 13) {
		isTold(t, program(api.Inst{Op: op}), api.ErrCode, 0)
		isTold(t, program(match(), api.Inst{Op: op}), api.ErrCode, 1)
	}
	isRight(t, with(program(open(29), closed(29), back(29), zero(39), turn(39, 0, 0, 5, 0), match()), 30, 40))
}

// TestBounds: P14.1, all bounds of a turn.
func TestBounds(t *testing.T) {
	for least := -2; least <= 257; least++ {
		for most := -2; most <= 257; most++ {
			want := api.ErrCode
			if 0 <= least && least <= 255 && (most == -1 || least <= most && most <= 255) {
				want = api.OK
			}
			if e, at := code.Right(with(program(turn(0, least, most, 0, 0)), 0, 1)); e != want || at != 0 {
				t.Fatalf("%d to %d: %v, %d", least, most, e, at)
			}
		}
	}
}

// TestLast: P14.1, what leads to the next instruction is not the last one; all others may be.
func TestLast(t *testing.T) {
	for _, in := range oneOfEach().Insts {
		for _, ahead := range []int{0, 1, 7} {
			p := with(program(append(many(match(), ahead), in)...), 2, 2)
			p.Insts[ahead].X, p.Insts[ahead].Y = 0, 0
			if rows[in.Op].next {
				isTold(t, p, api.ErrCode, ahead)
			} else {
				isRight(t, p)
			}
			p.Insts = append(p.Insts, match())
			isRight(t, p)
		}
	}
}

// TestFirstWrong: P14.1, of several wrong instructions the first one is told.
func TestFirstWrong(t *testing.T) {
	isTold(t, program(match(), jump(9), api.Inst{}, begin()), api.ErrCode, 1)
	isTold(t, program(match(), match(), api.Inst{}, jump(9), begin()), api.ErrCode, 2)
	p := program(many(match(), 40000)...)
	p.Insts[39999] = end()
	isTold(t, p, api.ErrCode, 39999)
	p.Insts[39998] = jump(40000)
	isTold(t, p, api.ErrCode, 39998)
	p.Insts[39998], p.Insts[39999] = jump(39999), split(39999, 0)
	isRight(t, p)
}

// TestManyRight: P14.1, P14.5 and P14.7, programs that were made right, and spoilt ones.
func TestManyRight(t *testing.T) {
	next := numbers(14)
	told := map[api.Errno]int{}
	for range 30000 {
		p := made(next, 12)
		isRight(t, p)
		q := spoilt(next, spoilt(next, p))
		want, at := modelRight(q)
		isTold(t, q, want, at)
		told[want]++
		for _, x := range []api.Program{p, q} {
			if e, _ := code.Right(x); e == api.OK {
				leadsRight(t, x)
				reaches(t, x, modelReach(x))
			}
		}
	}
	for _, e := range []api.Errno{api.OK, api.ErrArg, api.ErrCode} {
		if told[e] < 1000 {
			t.Error(told)
		}
	}
}

// leadsRight: P14.7, a right program leads to no instruction that there is not.
func leadsRight(t *testing.T, p api.Program) {
	t.Helper()
	for i, in := range p.Insts {
		for _, to := range modelLeads(in, i) {
			if to < 0 || to >= len(p.Insts) {
				t.Errorf("%v: %d leads to %d", p, i, to)
			}
		}
	}
}

// TestFree: P14.2, of programs that are right and of others.
func TestFree(t *testing.T) {
	for op := -2; op <= 14; op++ {
		want := op != api.OpBack && op != api.OpZero && op != api.OpTurn
		for _, in := range []api.Inst{{Op: op}, {Op: op, X: -7, Y: 99, N: 1000, Min: 5, Max: -3, Set: only(1)}} {
			for _, p := range []api.Program{program(in), program(in, match()), program(match(), in), program(match(), in, api.Inst{}, match()), with(program(in), -1, 99)} {
				if got := code.Free(p); got != want {
					t.Errorf("Free(%v): %v", p, got)
				}
			}
		}
	}
	if !code.Free(program()) || !code.Free(with(program(), 3, 3)) || !code.Free(program(many(api.Inst{}, 50000)...)) {
		t.Error("there is nothing that is not free")
	}
	p := program(many(match(), 50000)...)
	p.Insts[49999] = back(0)
	if code.Free(p) || code.Free(oneOfEach()) {
		t.Error("it is not free")
	}
}

// reaches: P14.5, and P14.7: 0 is among them.
func reaches(t *testing.T, p api.Program, want []int) {
	t.Helper()
	l, e := code.Reach(p)
	if e != api.OK || !slices.Equal(l, want) || l[0] != 0 {
		t.Errorf("Reach(%v): %v, %v, want %v", brief(p), l[:min(len(l), 20)], e, want[:min(len(want), 20)])
	}
}

// upTo is the numbers below n.
func upTo(n int) []int {
	l := make([]int, n)
	for i := range l {
		l[i] = i
	}
	return l
}

// TestReach: P14.5, by the table alone: bytes of no set, a turn that may never begin and the line's ends lead on all the same.
func TestReach(t *testing.T) {
	reaches(t, program(jump(0)), []int{0})
	reaches(t, program(match(), match()), []int{0})
	reaches(t, program(jump(2), begin(), match()), []int{0, 2})
	reaches(t, program(split(1, 1), jump(1), match()), []int{0, 1})
	reaches(t, program(split(3, 1), match(), match(), match()), []int{0, 1, 3})
	reaches(t, program(split(0, 0), match()), []int{0})
	reaches(t, program(jump(3), match(), match(), jump(1)), []int{0, 1, 3})
	reaches(t, program(byteOf(api.Set{}), match(), match()), []int{0, 1})
	reaches(t, program(begin(), end(), begin(), match()), []int{0, 1, 2, 3})
	reaches(t, with(program(turn(0, 0, 0, 1, 3), match(), match(), match()), 0, 1), []int{0, 1, 3})
	reaches(t, with(program(turn(0, 255, api.Infinite, 2, 2), match(), match()), 0, 1), []int{0, 2})
	reaches(t, with(program(back(0), match(), match()), 1, 0), []int{0, 1})
	reaches(t, with(program(open(0), closed(0), back(0), match(), match()), 1, 0), []int{0, 1, 2, 3})
	reaches(t, with(program(zero(0), jump(3), match(), turn(0, 1, 1, 1, 5), match(), match()), 0, 1), []int{0, 1, 3, 5})
	reaches(t, oneOfEach(), upTo(11))
}

// TestReachOfMany: P14.5, at the limit: one behind the other, and from the back.
func TestReachOfMany(t *testing.T) {
	on := program(append(many(begin(), 39999), match())...)
	reaches(t, on, upTo(40000))
	down := program(many(match(), 40000)...)
	for i := range down.Insts {
		down.Insts[i] = jump(max(0, i-1))
	}
	down.Insts[0] = jump(39999)
	reaches(t, down, upTo(40000))
	reaches(t, program(append([]api.Inst{jump(39999)}, many(match(), 39999)...)...), []int{0, 39999})
}

// TestSame: P14.6, whatever differs by itself, of right programs and of others.
func TestSame(t *testing.T) {
	next := numbers(6)
	for range 2000 {
		p := made(next, 8)
		q := spoilt(next, p)
		for _, x := range []api.Program{p, q} {
			for _, y := range []api.Program{p, q} {
				if got, want := code.Same(x, y), equal(x, y); got != want {
					t.Fatalf("Same(%v, %v): %v", x, y, got)
				}
			}
		}
	}
	p := oneOfEach()
	for at := range p.Insts {
		for _, change := range []func(*api.Program, *api.Inst){
			func(_ *api.Program, in *api.Inst) { in.Op += 99 },
			func(_ *api.Program, in *api.Inst) { in.X-- },
			func(_ *api.Program, in *api.Inst) { in.Y-- },
			func(_ *api.Program, in *api.Inst) { in.N-- },
			func(_ *api.Program, in *api.Inst) { in.Min-- },
			func(_ *api.Program, in *api.Inst) { in.Max-- },
			func(_ *api.Program, in *api.Inst) { in.Set[0] ^= 1 },
			func(_ *api.Program, in *api.Inst) { in.Set[3] ^= 1 << 63 },
			func(p *api.Program, _ *api.Inst) { p.Groups-- },
			func(p *api.Program, _ *api.Inst) { p.Counters-- },
			func(p *api.Program, _ *api.Inst) { p.Fold = true },
			func(p *api.Program, _ *api.Inst) { p.Insts = p.Insts[:at] },
			func(p *api.Program, _ *api.Inst) { p.Insts = append(p.Insts, api.Inst{}) },
		} {
			q := p
			q.Insts = slices.Clone(p.Insts)
			if !code.Same(p, q) || !code.Same(q, p) {
				t.Error("a copy is not the same")
			}
			change(&q, &q.Insts[at])
			if code.Same(p, q) || code.Same(q, p) || !code.Same(q, q) {
				t.Errorf("%v and %v", p, q)
			}
		}
	}
	if !code.Same(api.Program{}, program([]api.Inst{}...)) || !code.Same(api.Program{}, api.Program{Insts: []api.Inst{}}) {
		t.Error("nothing is not nothing")
	}
	if long := program(many(api.Inst{}, 50000)...); !code.Same(long, program(many(api.Inst{}, 50000)...)) || code.Same(long, program(many(api.Inst{}, 50001)...)) {
		t.Error("of many instructions")
	}
}

// TestNothingIsWrittenInto: P3, what is handed in stays, and what stands behind it.
func TestNothingIsWrittenInto(t *testing.T) {
	next := numbers(3)
	for range 500 {
		all := append(slices.Clone(made(next, 9).Insts), many(api.Inst{Op: 77, X: 5}, 4)...)
		p := with(program(all[:len(all)-4]...), 3, 3)
		p.Insts = all[: len(all)-4 : len(all)]
		before := slices.Clone(all)
		code.Right(p)
		code.Free(p)
		code.Text(p)
		code.Same(p, p)
		code.Reach(p)
		if !slices.Equal(all, before) {
			t.Fatalf("%v, want %v", all, before)
		}
	}
}

// TestReachIsNewMemory: P3, two answers share nothing, spare room neither.
func TestReachIsNewMemory(t *testing.T) {
	p := oneOfEach()
	a, _ := code.Reach(p)
	b, _ := code.Reach(p)
	a = a[:cap(a)]
	for i := range a {
		a[i] = -1
	}
	if !slices.Equal(b, upTo(11)) {
		t.Error(b)
	}
	b = b[:cap(b)]
	for i := range b {
		b[i] = -2
	}
	if c, _ := code.Reach(p); !slices.Equal(c, upTo(11)) || slices.Contains(a, -2) {
		t.Error(c, a)
	}
}
