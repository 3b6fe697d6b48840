package line_test

import (
	"slices"
	"sync"
	"testing"

	"sakia/api"
	"sakia/line"
)

const (
	most  = 1<<63 - 1
	least = -1 << 63
)

// all has all threads in a line, the last one first.
func all() []int {
	l := []int{}
	for id := api.MaxThreads - 1; id >= 0; id-- {
		l = append(l, id)
	}
	return l
}

// right has lines that may be.
func right() map[string][]int {
	return map[string][]int{
		"no list":                 nil,
		"an empty one":            {},
		"the least one":           {0},
		"the greatest one":        {15},
		"one between":             {7},
		"the chapter's example":   {5, 2},
		"least and greatest":      {0, 15},
		"greatest and least":      {15, 0},
		"some":                    {9, 0, 15, 3},
		"all but the least one":   all()[:15],
		"all but the first one":   all()[1:],
		"all, the last one first": all(),
		"all, in order":           {0, 1, 2, 3, 4, 5, 6, 7, 8, 9, 10, 11, 12, 13, 14, 15},
	}
}

// wrong has lines that may not be.
func wrong() map[string][]int {
	return map[string][]int{
		"below 0":                    {-1},
		"far below 0":                {least},
		"above":                      {16},
		"far above":                  {most},
		"one that goes round":        {1 << 32},
		"another that goes round":    {1<<32 + 5},
		"below 0, first":             {-1, 4, 5},
		"below 0, between":           {4, -1, 5},
		"above, at the end":          {4, 5, 16},
		"the least one twice":        {0, 0},
		"the greatest one twice":     {15, 15},
		"twice, apart":               {4, 5, 6, 4},
		"twice, at the end":          {6, 5, 4, 4},
		"twice, in the midst":        {1, 4, 4, 2},
		"thrice":                     {3, 3, 3},
		"who is none, twice":         {16, 16},
		"all, and one more":          append(all(), 8),
		"all, and the last again":    append(all(), 0),
		"all, and one above":         append(all(), 16),
		"all but one, and one below": append(all()[1:], -1),
		"very many":                  slices.Repeat(all(), 5000),
		"very many of one":           slices.Repeat([]int{3}, 100_000),
	}
}

// P5.1: which lines may be.
func TestCheck(t *testing.T) {
	for name, l := range right() {
		if !line.Check(l) {
			t.Errorf("%s: %v may be", name, l)
		}
	}
	for name, l := range wrong() {
		if line.Check(l) {
			t.Errorf("%s: may not be", name)
		}
	}
}

// P5.1: where one stands, and who is first.
func TestPlaceAndFirst(t *testing.T) {
	for name, l := range right() {
		for n, id := range l {
			if line.Place(l, id) != n || line.First(l, id) != (n == 0) {
				t.Errorf("%s: of %v, %d: %d, %v", name, l, id, line.Place(l, id), line.First(l, id))
			}
		}
	}
	for _, c := range []struct {
		name string
		l    []int
		id   int
	}{
		{"nobody there", nil, 0},
		{"an empty one", []int{}, 0},
		{"who is not there", []int{9, 0, 15, 3}, 5},
		{"a place, not a thread", []int{9, 0, 15, 3}, 1},
		{"the least one", []int{9, 15}, 0},
		{"the greatest one", []int{9, 0}, 15},
		{"below 0", all(), -1},
		{"above", all(), 16},
		{"far below 0", all(), least},
		{"far above", all(), most},
		{"one that goes round", all(), 1<<32 + 15},
	} {
		if line.Place(c.l, c.id) != -1 || line.First(c.l, c.id) {
			t.Errorf("%s: of %v, %d: %d, %v", c.name, c.l, c.id, line.Place(c.l, c.id), line.First(c.l, c.id))
		}
	}
}

// change is a line that is changed by one, with what error, and what it is then.
type change struct {
	name string
	l    []int
	id   int
	err  api.Errno
	then []int
}

// check goes through changes.
func check(t *testing.T, by func([]int, int) ([]int, api.Errno), cs []change) {
	t.Helper()
	for _, c := range cs {
		if l, err := by(c.l, c.id); err != c.err || !slices.Equal(l, c.then) {
			t.Errorf("%s: of %v, %d: %v, %v, not %v, %v", c.name, c.l, c.id, l, err, c.then, c.err)
		}
	}
}

// P5.2: one more.
func TestEnter(t *testing.T) {
	some := []int{9, 0, 15, 3}
	check(t, line.Enter, []change{
		{"alone", nil, 5, api.OK, []int{5}},
		{"the least, alone", []int{}, 0, api.OK, []int{0}},
		{"the greatest, alone", nil, 15, api.OK, []int{15}},
		{"behind one", []int{5}, 2, api.OK, []int{5, 2}},
		{"behind some", some, 1, api.OK, []int{9, 0, 15, 3, 1}},
		{"a great one behind", some, 14, api.OK, []int{9, 0, 15, 3, 14}},
		{"the last that there may be", all()[:15], 0, api.OK, all()},
		{"who was first", all()[1:], 15, api.OK, append(all()[1:], 15)},

		{"who is alone", []int{5}, 5, api.ErrTwice, []int{5}},
		{"who is first", some, 9, api.ErrTwice, some},
		{"who is between", some, 0, api.ErrTwice, some},
		{"who is last", some, 3, api.ErrTwice, some},
		{"all are there", all(), 7, api.ErrTwice, all()},
		{"below 0", some, -1, api.ErrNone, some},
		{"above", some, 16, api.ErrNone, some},
		{"far below 0", some, least, api.ErrNone, some},
		{"far above", some, most, api.ErrNone, some},
		{"one that goes round", some, 1<<32 + 1, api.ErrNone, some},
		{"above, alone", nil, 16, api.ErrNone, nil},
		{"below 0, and all are there", all(), -1, api.ErrNone, all()},
		{"above, and all are there", all(), 16, api.ErrNone, all()},
	})
}

// P5.2: one less.
func TestLeave(t *testing.T) {
	some := []int{9, 0, 15, 3}
	check(t, line.Leave, []change{
		{"the only one", []int{5}, 5, api.OK, nil},
		{"the first one", some, 9, api.OK, []int{0, 15, 3}},
		{"the least one", some, 0, api.OK, []int{9, 15, 3}},
		{"the greatest one", some, 15, api.OK, []int{9, 0, 3}},
		{"the last one", some, 3, api.OK, []int{9, 0, 15}},
		{"the first of all", all(), 15, api.OK, all()[1:]},
		{"the last of all", all(), 0, api.OK, all()[:15]},

		{"of none", nil, 0, api.ErrNone, nil},
		{"of an empty one", []int{}, 0, api.ErrNone, nil},
		{"who is not there", some, 5, api.ErrNone, some},
		{"a place, not a thread", some, 1, api.ErrNone, some},
		{"below 0", some, -1, api.ErrNone, some},
		{"above", all(), 16, api.ErrNone, all()},
		{"far below 0", some, least, api.ErrNone, some},
		{"far above", some, most, api.ErrNone, some},
		{"one that goes round", some, 1<<32 + 9, api.ErrNone, some},
	})
}

// P5.2: the first one, and the others.
func TestNext(t *testing.T) {
	for name, l := range right() {
		id, rest, is := line.Next(l)
		if len(l) == 0 {
			if id != 0 || len(rest) != 0 || is {
				t.Errorf("%s: %d, %v, %v", name, id, rest, is)
			}
			continue
		}
		if id != l[0] || !slices.Equal(rest, l[1:]) || !is {
			t.Errorf("%s: of %v: %d, %v, %v", name, l, id, rest, is)
		}
	}
}

// P5.1, P5.2, R1: a line that may not be stays as it is, whatever is asked of it.
func TestWrong(t *testing.T) {
	for name, l := range wrong() {
		for _, id := range append(slices.Clone(l[:min(len(l), 20)]), edges()...) {
			if m, err := line.Enter(l, id); err != api.ErrNone || !slices.Equal(m, l) {
				t.Errorf("%s: enter %d: %v", name, id, err)
			}
			if m, err := line.Leave(l, id); err != api.ErrNone || !slices.Equal(m, l) {
				t.Errorf("%s: leave %d: %v", name, id, err)
			}
			if line.First(l, id) || line.Place(l, id) != -1 {
				t.Errorf("%s: %d: %v, %d", name, id, line.First(l, id), line.Place(l, id))
			}
		}
		if id, rest, is := line.Next(l); id != 0 || !slices.Equal(rest, l) || is {
			t.Errorf("%s: %d, %v", name, id, is)
		}
	}
}

// edges are numbers at the edges that the chapter names, beside them, and far outside.
func edges() []int {
	return []int{least, -1, 0, 1, 14, 15, 16, 1 << 32, most}
}

// lists goes through all lists of up to four of the edges.
func lists(yield func([]int) bool) {
	now := [][]int{nil}
	for range 5 {
		next := [][]int{}
		for _, l := range now {
			if !yield(l) {
				return
			}
			for _, id := range edges() {
				next = append(next, append(slices.Clone(l), id))
			}
		}
		now = next
	}
}

// mayBe is what the chapter says of a line, each held against each.
func mayBe(l []int) bool {
	for n, id := range l {
		if id < 0 || id > 15 {
			return false
		}
		for _, other := range l[n+1:] {
			if id == other {
				return false
			}
		}
	}
	return true
}

// stands is what the chapter says of where one stands.
func stands(l []int, id int) int {
	for n, other := range l {
		if mayBe(l) && id == other {
			return n
		}
	}
	return -1
}

// enters is what the chapter says of one more.
func enters(l []int, id int) ([]int, api.Errno) {
	switch {
	case !mayBe(l) || id < 0 || id > 15:
		return l, 40
	case stands(l, id) >= 0:
		return l, 60
	}
	return slices.Concat(l, []int{id}), 0
}

// leaves is what the chapter says of one less.
func leaves(l []int, id int) ([]int, api.Errno) {
	n := stands(l, id)
	if n < 0 {
		return l, 40
	}
	return slices.Concat(l[:n], l[n+1:]), 0
}

// nexts is what the chapter says of the first one, and the others.
func nexts(l []int) (int, []int, bool) {
	if !mayBe(l) || len(l) == 0 {
		return 0, l, false
	}
	return l[0], l[1:], true
}

// P5.1, P5.2, R1: at all edges, together.
func TestAtTheEdges(t *testing.T) {
	good := 0
	for l := range lists {
		may := mayBe(l)
		if may {
			good++
		}
		id, others, there := nexts(l)
		n, rest, is := line.Next(l)
		if line.Check(l) != may || n != id || !slices.Equal(rest, others) || is != there {
			t.Fatalf("%v: %v; %d, %v, %v", l, line.Check(l), n, rest, is)
		}
		for _, id := range edges() {
			then, err := enters(l, id)
			if m, e := line.Enter(l, id); e != err || !slices.Equal(m, then) {
				t.Fatalf("%v, enter %d: %v, %v, not %v, %v", l, id, m, e, then, err)
			}
			then, err = leaves(l, id)
			if m, e := line.Leave(l, id); e != err || !slices.Equal(m, then) {
				t.Fatalf("%v, leave %d: %v, %v, not %v, %v", l, id, m, e, then, err)
			}
			place := stands(l, id)
			if line.Place(l, id) != place || line.First(l, id) != (place == 0) {
				t.Fatalf("%v, %d: %d, %v", l, id, line.Place(l, id), line.First(l, id))
			}
		}
	}
	if good != 1+4+4*3+4*3*2+4*3*2 {
		t.Errorf("%d may be", good)
	}
}

// book is a line, and beside it when each one that stands there entered.
type book struct {
	t       *testing.T
	l       []int
	clock   int
	entered map[int]int
}

// enter lets one enter, which it may just if it is not there.
func (b *book) enter(id int) {
	b.t.Helper()
	l, err := line.Enter(b.l, id)
	if _, there := b.entered[id]; err == api.OK == there {
		b.t.Fatalf("%v, enter %d: %v", b.l, id, err)
	} else if !there {
		b.clock++
		b.entered[id] = b.clock
	}
	b.l = l
}

// leave lets one leave, which it may just if it is there: all behind come one place nearer, and nobody else does.
func (b *book) leave(id int) {
	b.t.Helper()
	when, there := b.entered[id]
	l, err := line.Leave(b.l, id)
	if err == api.OK != there {
		b.t.Fatalf("%v, leave %d: %v", b.l, id, err)
	}
	delete(b.entered, id)
	for other, then := range b.entered {
		place := line.Place(b.l, other)
		if there && then > when {
			place--
		}
		if line.Place(l, other) != place {
			b.t.Fatalf("%v, leave %d: %v", b.l, id, l)
		}
	}
	b.l = l
}

// next takes the first one: nobody that stands there entered ahead of it.
func (b *book) next() {
	b.t.Helper()
	id, rest, is := line.Next(b.l)
	if is != (len(b.entered) > 0) {
		b.t.Fatalf("%v, next: %d, %v", b.l, id, is)
	}
	for other, when := range b.entered {
		if when < b.entered[id] {
			b.t.Fatalf("%v, next: %d, not %d", b.l, id, other)
		}
	}
	delete(b.entered, id)
	b.l = rest
}

// agrees checks that all stand there, and each behind all that entered ahead of it.
func (b *book) agrees() {
	b.t.Helper()
	if !line.Check(b.l) || len(b.l) != len(b.entered) {
		b.t.Fatalf("%v, not %v", b.l, b.entered)
	}
	for id, when := range b.entered {
		ahead := 0
		for _, then := range b.entered {
			if then < when {
				ahead++
			}
		}
		if line.Place(b.l, id) != ahead || line.First(b.l, id) != (ahead == 0) {
			b.t.Fatalf("%v: %d is at %d, not %d", b.l, id, line.Place(b.l, id), ahead)
		}
	}
}

// P5.3: who enters first is first, unless who stands ahead leaves; of many changes, in orders that look like none.
func TestFirstIsFirst(t *testing.T) {
	for seed := range uint32(200) {
		b := book{t, nil, 0, map[int]int{}}
		pick := func(below uint32) int {
			seed = seed*1664525 + 1013904223
			return int(seed >> 8 % below)
		}
		for range 400 {
			switch id := pick(api.MaxThreads); pick(8) {
			case 0, 1, 2, 3, 4:
				b.enter(id)
			case 5, 6:
				b.leave(id)
			case 7:
				b.next()
			}
			b.agrees()
		}
	}
}

// P5.3: in whatever order all enter, they come out in that order.
func TestInOrder(t *testing.T) {
	for step := 1; step < 16; step += 2 {
		var l, want []int
		for n := range 16 {
			want = append(want, n*step%16)
			l, _ = line.Enter(l, want[n])
		}
		for n := range 16 {
			id, rest, is := line.Next(l)
			if id != want[n] || !is || !line.First(l, id) {
				t.Fatalf("of %v, at %d: %d, %v", want, n, id, is)
			}
			l = rest
		}
		if _, _, is := line.Next(l); is {
			t.Errorf("of %v, some are left: %v", want, l)
		}
	}
}

// apart checks that an answer, its spare room included, shares nothing with what was handed in.
func apart(t *testing.T, l, got []int) {
	t.Helper()
	was, keep := slices.Clone(l), slices.Clone(got)
	for n := range l {
		l[n] = -1
	}
	if !slices.Equal(got, keep) {
		t.Fatalf("of %v: %v, not %v", was, got, keep)
	}
	copy(l, was)
	got = got[:cap(got)]
	for n := range got {
		got[n] = -2
	}
	if !slices.Equal(l, was) {
		t.Fatalf("%v, not %v", l, was)
	}
}

// R3: what is handed in stays as it was, its spare room included, and is not kept; whatever comes of it.
func TestHandedIn(t *testing.T) {
	was := []int{9, 0, 15, 3, 9, 16, 70, 71}
	for n := range 7 {
		for _, id := range append(edges(), was...) {
			l := slices.Clone(was)
			more, _ := line.Enter(l[:n], id)
			less, _ := line.Leave(l[:n], id)
			_, rest, _ := line.Next(l[:n])
			line.Check(l[:n])
			line.First(l[:n], id)
			line.Place(l[:n], id)
			if !slices.Equal(l, was) {
				t.Fatalf("of %d, by %d: %v", n, id, l)
			}
			for _, got := range [][]int{more, less, rest} {
				apart(t, l, got)
			}
		}
	}
}

// R3: two answers share nothing.
func TestTwoAnswers(t *testing.T) {
	base, _ := line.Enter([]int{4, 5}, 6)
	a, _ := line.Enter(base, 7)
	b, _ := line.Enter(base, 8)
	if !slices.Equal(a, []int{4, 5, 6, 7}) || !slices.Equal(b, []int{4, 5, 6, 8}) {
		t.Errorf("%v, %v", a, b)
	}
	_, c, _ := line.Next(a)
	_, d, _ := line.Next(a)
	e, _ := line.Leave(a, 4)
	c[0] = -1
	if !slices.Equal(d, []int{5, 6, 7}) || !slices.Equal(e, d) {
		t.Errorf("%v, %v", d, e)
	}
}

// R4: the same is answered of the same, whatever lies behind a list, and however goroutines run.
func TestSameAnswers(t *testing.T) {
	shared := []int{9, 0, 15, 3}
	var group sync.WaitGroup
	for spare := range 8 {
		group.Go(func() {
			mine := append(make([]int, 0, len(shared)+spare), shared...)
			for range 200 {
				for _, l := range [][]int{mine, shared} {
					more, err := line.Enter(l, 2)
					if err != api.OK || !slices.Equal(more, []int{9, 0, 15, 3, 2}) {
						t.Errorf("%v, %v", more, err)
					}
					less, err := line.Leave(more, 0)
					if err != api.OK || !slices.Equal(less, []int{9, 15, 3, 2}) {
						t.Errorf("%v, %v", less, err)
					}
					if id, rest, is := line.Next(less); id != 9 || !slices.Equal(rest, []int{15, 3, 2}) || !is {
						t.Errorf("%d, %v, %v", id, rest, is)
					}
				}
			}
		})
	}
	group.Wait()
}
