package fifo_test

import (
	"slices"
	"sync"
	"testing"

	"sakia/api"
	"sakia/fifo"
)

const (
	most  = 1<<63 - 1
	least = -1 << 63
)

// same tells whether two queues are alike; a list without elements may be nil or not.
func same(a, b api.Queue) bool {
	return slices.Equal(a.Vals, b.Vals) && a.Cap == b.Cap && a.Policy == b.Policy && a.Mode == b.Mode
}

// of is a queue of Cap 2.
func of(mode, policy int, vals ...int) api.Queue {
	return api.Queue{Vals: vals, Cap: 2, Policy: policy, Mode: mode}
}

// with is a queue with other values, and another mode.
func with(q api.Queue, mode int, vals ...int) api.Queue {
	q.Vals, q.Mode = vals, mode
	return q
}

// trial is an entry that is told of a queue, and what it makes of it, if it may be told.
type trial struct {
	name string
	q    api.Queue
	e    api.Entry
	may  bool
	then api.Queue
}

// stays is a trial of an entry that may be told, and leaves the queue.
func stays(name string, q api.Queue, kind, result int) trial {
	return trial{name, q, api.Entry{Kind: kind, Result: result}, true, q}
}

// never is a trial of an entry that may not be told.
func never(name string, q api.Queue, e api.Entry) trial {
	return trial{name, q, e, false, q}
}

// check goes through trials.
func check(t *testing.T, l []trial) {
	t.Helper()
	for _, c := range l {
		if q, may := fifo.Do(c.q, c.e); may != c.may || !same(q, c.then) {
			t.Errorf("%s: of %v, %v: %v, %v, not %v, %v", c.name, c.q, c.e, q, may, c.then, c.may)
		}
		if q, n := fifo.All(c.q, []api.Entry{c.e}); n == 1 != c.may || !same(q, c.then) {
			t.Errorf("%s, in a list: of %v, %v: %v, %d, not %v, %v", c.name, c.q, c.e, q, n, c.then, c.may)
		}
	}
}

// P3.1: what is sent, and comes in.
func TestLetIn(t *testing.T) {
	l := []trial{}
	for kind := api.KSend; kind <= api.KSendUntil; kind++ {
		e := api.Entry{Kind: kind, Val: 7, Result: api.ROK}
		other := api.Entry{Thread: -9, Kind: kind, Val: least, Result: api.ROK, Got: 5}
		for policy := range 3 {
			l = append(l,
				trial{"none there", of(0, policy), e, true, of(0, policy, 7)},
				trial{"one there", of(0, policy, 5), e, true, of(0, policy, 5, 7)},
				trial{"the same there", of(0, policy, 7), e, true, of(0, policy, 7, 7)},
				trial{"what is not asked", of(0, policy, 5), other, true, of(0, policy, 5, least)},
				never("full", of(0, policy, 5, 6), e),
				never("more than full", of(0, policy, 5, 6, 7), e),
				never("no Cap", api.Queue{Policy: policy}, e),
				never("a Cap below 0", api.Queue{Cap: least, Policy: policy}, e),
				never("draining", of(1, policy, 5), e),
				never("halted", of(2, policy, 5), e),
				never("of no mode", of(3, policy, 5), e),
				never("of a mode below 0", of(-1, policy, 5), e),
			)
		}
		l = append(l, trial{"of no policy", of(0, 9, 5), e, true, of(0, 9, 5, 7)})
	}
	check(t, l)
}

// P3.1: what is sent, and does not come in.
func TestTurnedAway(t *testing.T) {
	check(t, []trial{
		stays("full", of(0, api.Block, 5, 6), api.KTrySend, api.RFull),
		stays("more than full", of(0, api.Block, 5, 6, 7), api.KTrySend, api.RFull),
		stays("full, of no Cap", api.Queue{}, api.KTrySend, api.RFull),
		stays("full, of a Cap below 0", api.Queue{Cap: -1}, api.KTrySend, api.RFull),
		never("full, who does not try", of(0, api.Block, 5, 6), api.Entry{Kind: api.KSend, Result: api.RFull}),
		never("full, who waits", of(0, api.Block, 5, 6), api.Entry{Kind: api.KSendUntil, Result: api.RFull}),
		never("full, of DropNew", of(0, api.DropNew, 5, 6), api.Entry{Kind: api.KTrySend, Result: api.RFull}),
		never("full, of DropOld", of(0, api.DropOld, 5, 6), api.Entry{Kind: api.KTrySend, Result: api.RFull}),
		never("full, draining", of(1, api.Block, 5, 6), api.Entry{Kind: api.KTrySend, Result: api.RFull}),
		never("full, halted", of(2, api.Block, 5, 6), api.Entry{Kind: api.KTrySend, Result: api.RFull}),
		never("not full", of(0, api.Block, 5), api.Entry{Kind: api.KTrySend, Result: api.RFull}),

		stays("dropped", of(0, api.DropNew, 5, 6), api.KSend, api.RDropped),
		stays("dropped, who tries", of(0, api.DropNew, 5, 6), api.KTrySend, api.RDropped),
		stays("dropped, who waits", of(0, api.DropNew, 5, 6, 7), api.KSendUntil, api.RDropped),
		never("dropped, of Block", of(0, api.Block, 5, 6), api.Entry{Kind: api.KSend, Result: api.RDropped}),
		never("dropped, of DropOld", of(0, api.DropOld, 5, 6), api.Entry{Kind: api.KSend, Result: api.RDropped}),
		never("dropped, draining", of(1, api.DropNew, 5, 6), api.Entry{Kind: api.KSend, Result: api.RDropped}),
		never("dropped, halted", of(2, api.DropNew, 5, 6), api.Entry{Kind: api.KSend, Result: api.RDropped}),
		never("dropped, not full", of(0, api.DropNew, 5), api.Entry{Kind: api.KSend, Result: api.RDropped}),

		never("nothing is empty to who sends", of(0, api.Block), api.Entry{Kind: api.KTrySend, Result: api.REmpty}),
		never("no result", of(0, api.Block), api.Entry{Kind: api.KSend, Val: 7}),
		never("a result above all", of(0, api.Block), api.Entry{Kind: api.KSend, Val: 7, Result: api.RHalted + 1}),
		never("a result below all", of(0, api.Block), api.Entry{Kind: api.KSend, Val: 7, Result: least}),
	})
}

// P3.1: who sends to a queue that is closed, or is late.
func TestSendEnds(t *testing.T) {
	l := []trial{}
	for kind := api.KSend; kind <= api.KSendUntil; kind++ {
		closed, halted := api.Entry{Kind: kind, Result: api.RClosed}, api.Entry{Kind: kind, Result: api.RHalted}
		for _, vals := range [][]int{nil, {5}, {5, 6}, {5, 6, 7}} {
			l = append(l,
				stays("draining", of(1, 0, vals...), kind, api.RClosed),
				never("open, not closed", of(0, 0, vals...), closed),
				never("halted, not closed", of(2, 0, vals...), closed),
				stays("halted", of(2, 0, vals...), kind, api.RHalted),
				never("open, not halted", of(0, 0, vals...), halted),
				never("draining, not halted", of(1, 0, vals...), halted),
				never("of no mode, not closed", of(3, 0, vals...), closed),
				never("of no mode, not halted", of(3, 0, vals...), halted),
			)
			for mode := -1; mode <= 3; mode++ {
				late := trial{"late", of(mode, 0, vals...), api.Entry{Kind: kind, Result: api.RTimeout}, kind == api.KSendUntil, of(mode, 0, vals...)}
				l = append(l, late)
			}
		}
	}
	check(t, l)
}

// P3.2: what is received.
func TestGiveOut(t *testing.T) {
	l := []trial{}
	for kind := api.KRecv; kind <= api.KRecvUntil; kind++ {
		e := api.Entry{Kind: kind, Result: api.ROK, Got: 5}
		other := api.Entry{Thread: 99, Kind: kind, Val: 6, Result: api.ROK, Got: 5}
		for policy := range 3 {
			l = append(l,
				trial{"the only one", of(0, policy, 5), e, true, of(0, policy)},
				trial{"the first one", of(0, policy, 5, 6), e, true, of(0, policy, 6)},
				trial{"the first of many", of(0, policy, 5, 6, 5), e, true, of(0, policy, 6, 5)},
				trial{"the first of the same", of(0, policy, 5, 5), e, true, of(0, policy, 5)},
				trial{"what is not asked", of(0, policy, 5, 6), other, true, of(0, policy, 6)},
				trial{"draining", of(1, policy, 5, 6), e, true, of(1, policy, 6)},
				trial{"draining, the last one", of(1, policy, 5), e, true, of(1, policy)},
				trial{"of no mode", of(3, policy, 5, 6), e, true, of(3, policy, 6)},
				trial{"of a mode below 0", of(-1, policy, 5, 6), e, true, of(-1, policy, 6)},
				never("halted", of(2, policy, 5, 6), e),
				never("another one", of(0, policy, 4, 6), e),
				never("the second one", of(0, policy, 4, 5), e),
				never("none there", of(0, policy), e),
				never("none there, and nothing got", of(0, policy), api.Entry{Kind: kind, Result: api.ROK}),
				never("draining, none there", of(1, policy), api.Entry{Kind: kind, Result: api.ROK}),
			)
		}
	}
	l = append(l, trial{"no Cap", api.Queue{Vals: []int{5}}, api.Entry{Kind: api.KRecv, Result: api.ROK, Got: 5}, true, api.Queue{}})
	check(t, l)
}

// P3.2: who receives nothing.
func TestRecvEnds(t *testing.T) {
	l := []trial{stays("empty", of(0, 0), api.KTryRecv, api.REmpty)}
	for kind := api.KRecv; kind <= api.KRecvUntil; kind++ {
		empty := api.Entry{Kind: kind, Result: api.REmpty}
		closed, halted := api.Entry{Kind: kind, Result: api.RClosed}, api.Entry{Kind: kind, Result: api.RHalted}
		l = append(l,
			trial{"empty", of(0, 0), empty, kind == api.KTryRecv, of(0, 0)},
			never("empty, and one there", of(0, 0, 5), empty),
			never("empty, draining", of(1, 0), empty),
			never("empty, halted", of(2, 0), empty),
			never("empty, of no mode", of(3, 0), empty),
			stays("drained", of(1, 0), kind, api.RClosed),
			never("drained, and one there", of(1, 0, 5), closed),
			never("closed, open", of(0, 0), closed),
			never("closed, halted", of(2, 0), closed),
			stays("halted", of(2, 0), kind, api.RHalted),
			stays("halted, and some there", of(2, 0, 5, 6), kind, api.RHalted),
			never("halted, open", of(0, 0), halted),
			never("halted, draining", of(1, 0), halted),
			never("no result", of(0, 0, 5), api.Entry{Kind: kind, Got: 5}),
			never("full", of(0, 0, 5, 6), api.Entry{Kind: kind, Result: api.RFull}),
			never("dropped", of(0, api.DropNew, 5, 6), api.Entry{Kind: kind, Result: api.RDropped}),
			never("a result above all", of(2, 0), api.Entry{Kind: kind, Result: 8}),
		)
		for mode := -1; mode <= 3; mode++ {
			for _, vals := range [][]int{nil, {5}, {5, 6, 7}} {
				late := trial{"late", of(mode, 0, vals...), api.Entry{Kind: kind, Result: api.RTimeout}, kind == api.KRecvUntil, of(mode, 0, vals...)}
				l = append(l, late)
			}
		}
	}
	check(t, l)
}

// P3.3: the oldest one goes.
func TestEvict(t *testing.T) {
	e := api.Entry{Kind: api.KEvict, Result: api.ROK, Got: 5}
	other := api.Entry{Thread: 3, Kind: api.KEvict, Val: 8, Result: api.ROK, Got: 5}
	check(t, []trial{
		{"full", of(0, api.DropOld, 5, 6), e, true, of(0, api.DropOld, 6)},
		{"what is not asked", of(0, api.DropOld, 5, 6), other, true, of(0, api.DropOld, 6)},
		{"more than full", of(0, api.DropOld, 5, 6, 7), e, true, of(0, api.DropOld, 6, 7)},
		{"no Cap", api.Queue{Vals: []int{5}, Policy: api.DropOld}, e, true, api.Queue{Policy: api.DropOld}},
		never("not full", of(0, api.DropOld, 5), e),
		never("none there", of(0, api.DropOld), e),
		never("no Cap, none there", api.Queue{Policy: api.DropOld}, api.Entry{Kind: api.KEvict, Result: api.ROK}),
		never("another one", of(0, api.DropOld, 4, 5), e),
		never("of Block", of(0, api.Block, 5, 6), e),
		never("of DropNew", of(0, api.DropNew, 5, 6), e),
		never("of no policy", of(0, 3, 5, 6), e),
		never("draining", of(1, api.DropOld, 5, 6), e),
		never("halted", of(2, api.DropOld, 5, 6), e),
		never("of no mode", of(3, api.DropOld, 5, 6), e),
	})
}

// P3.3: it is drained, or halted.
func TestDrainAndHalt(t *testing.T) {
	drain, halt := api.Entry{Kind: api.KDrain, Result: api.ROK}, api.Entry{Kind: api.KHalt, Result: api.ROK}
	l := []trial{}
	for policy := range 3 {
		for _, vals := range [][]int{nil, {5}, {5, 6}, {5, 6, 7}} {
			q := of(0, policy, vals...)
			l = append(l,
				trial{"drain, open", q, drain, true, with(q, 1, vals...)},
				trial{"drain, draining", with(q, 1, vals...), drain, true, with(q, 1, vals...)},
				trial{"drain, halted", with(q, 2, vals...), drain, true, with(q, 2, vals...)},
				trial{"drain, of no mode", with(q, 3, vals...), drain, true, with(q, 3, vals...)},
				trial{"drain, of a mode below 0", with(q, -1, vals...), drain, true, with(q, -1, vals...)},
			)
			for mode := -1; mode <= 3; mode++ {
				l = append(l, trial{"halt", with(q, mode, vals...), halt, true, with(q, 2, vals...)})
			}
		}
	}
	check(t, l)
}

// P3.3: nothing else may be told.
func TestNothingElse(t *testing.T) {
	l := []trial{}
	for mode := range 3 {
		for policy := range 3 {
			for _, vals := range [][]int{nil, {5}, {5, 6}} {
				q := of(mode, policy, vals...)
				for result := -1; result <= 8; result++ {
					for _, kind := range []int{least, -1, 0, api.KPick, api.KTick, 12, most} {
						l = append(l, never("a kind of nothing", q, api.Entry{Kind: kind, Result: result, Got: 5}))
					}
					for _, kind := range []int{api.KEvict, api.KDrain, api.KHalt} {
						if result != api.ROK {
							l = append(l, never("a result of nothing", q, api.Entry{Kind: kind, Result: result, Got: 5}))
						}
					}
				}
			}
		}
	}
	check(t, l)
}

// says is what the words of the chapter say of an entry, one behind the other.
func says(q api.Queue, e api.Entry) (api.Queue, bool) {
	in := func(l ...int) bool { return slices.Contains(l, e.Kind) }
	open, full, some := q.Mode == 0, len(q.Vals) >= q.Cap, len(q.Vals) > 0
	first := some && q.Vals[0] == e.Got
	behind := func() (api.Queue, bool) { return with(q, q.Mode, slices.Concat(q.Vals, []int{e.Val})...), true }
	gone := func() (api.Queue, bool) { return with(q, q.Mode, q.Vals[1:]...), true }
	switch {
	case in(1, 2, 3) && e.Result == 1 && open && !full:
		return behind()
	case in(4, 5, 6) && e.Result == 1 && q.Mode != 2 && first:
		return gone()
	case in(9) && e.Result == 1 && open && full && q.Policy == 2 && first:
		return gone()
	case in(7) && e.Result == 1 && open:
		return with(q, 1, q.Vals...), true
	case in(8) && e.Result == 1:
		return with(q, 2, q.Vals...), true
	case in(7) && e.Result == 1,
		in(2) && e.Result == 2 && open && full && q.Policy == 0,
		in(1, 2, 3) && e.Result == 3 && open && full && q.Policy == 1,
		in(1, 2, 3) && e.Result == 6 && q.Mode == 1,
		in(1, 2, 3, 4, 5, 6) && e.Result == 7 && q.Mode == 2,
		in(3, 6) && e.Result == 5,
		in(5) && e.Result == 4 && open && !some,
		in(4, 5, 6) && e.Result == 6 && q.Mode == 1 && !some:
		return q, true
	}
	return q, false
}

// queues goes through queues of all the edges that the chapter names, what lies beside them, and numbers that lie far outside.
func queues(yield func(api.Queue) bool) {
	for _, room := range []int{least, 0, 1, 2, 3, most} {
		for _, policy := range []int{-1, 0, 1, 2, 3, most} {
			for _, mode := range []int{-1, 0, 1, 2, 3, least} {
				for _, vals := range [][]int{nil, {}, {0}, {5, 6}, {5, 5, 0}, {least, most}} {
					if !yield(api.Queue{Vals: vals, Cap: room, Policy: policy, Mode: mode}) {
						return
					}
				}
			}
		}
	}
}

// entries goes through entries of the same sort.
func entries(yield func(api.Entry) bool) {
	for _, kind := range []int{least, -1, 0, 1, 2, 3, 4, 5, 6, 7, 8, 9, 10, 11, most} {
		for _, result := range []int{least, -1, 0, 1, 2, 3, 4, 5, 6, 7, 8, most} {
			for _, got := range []int{0, 5, least} {
				if !yield(api.Entry{Thread: got - result, Kind: kind, Val: 7 + got, Result: result, Got: got}) {
					return
				}
			}
		}
	}
}

// P3.1 to P3.3, R1: all entries of all queues.
func TestDoAtTheEdges(t *testing.T) {
	told := 0
	for q := range queues {
		for e := range entries {
			then, may := says(q, e)
			if got, ok := fifo.Do(q, e); ok != may || !same(got, then) {
				t.Fatalf("of %v, %v: %v, %v, not %v, %v", q, e, got, ok, then, may)
			}
			if may {
				told++
			}
		}
	}
	if told == 0 {
		t.Error("none may be told")
	}
}

// P3.1: the Thread of an entry is not asked.
func TestThread(t *testing.T) {
	for _, q := range []api.Queue{of(0, 0), of(0, 0, 5), of(0, 1, 0, 5), of(0, 2, 5, 0), of(1, 0), of(1, 0, 5), of(2, 0, 5)} {
		for e := range entries {
			other := e
			other.Thread = most - e.Thread&7
			a, mayA := fifo.Do(q, e)
			b, mayB := fifo.Do(q, other)
			if mayA != mayB || !same(a, b) {
				t.Fatalf("of %v, %v: %v, %v; of another thread %v, %v", q, e, a, mayA, b, mayB)
			}
		}
	}
}

// P3.4: some entries, in order.
func TestAll(t *testing.T) {
	send, full := api.Entry{Kind: api.KSend, Val: 5, Result: api.ROK}, api.Entry{Kind: api.KTrySend, Val: 6, Result: api.RFull}
	recv := api.Entry{Kind: api.KRecv, Result: api.ROK, Got: 5}
	drain, halt := api.Entry{Kind: api.KDrain, Result: api.ROK}, api.Entry{Kind: api.KHalt, Result: api.ROK}
	one := api.Queue{Cap: 1}
	for _, c := range []struct {
		name string
		q    api.Queue
		l    []api.Entry
		then api.Queue
		n    int
	}{
		{"no list", of(0, 2, 9), nil, of(0, 2, 9), 0},
		{"an empty one", of(1, 1, 9), []api.Entry{}, of(1, 1, 9), 0},
		{"the chapter's example", one, []api.Entry{send, full}, with(one, 0, 5), 2},
		{"in and out", one, []api.Entry{send, full, recv, send}, with(one, 0, 5), 4},
		{"wrong first", one, []api.Entry{recv, send}, one, 0},
		{"wrong next", one, []api.Entry{send, send, recv}, with(one, 0, 5), 1},
		{"wrong last", one, []api.Entry{send, recv, recv}, one, 2},
		{"no entry", one, []api.Entry{send, {}, recv}, with(one, 0, 5), 1},
		{"drained", one, []api.Entry{send, drain, recv, send}, with(one, 1), 3},
		{"halted", one, []api.Entry{send, halt, drain, recv}, with(one, 2, 5), 3},
	} {
		if q, n := fifo.All(c.q, c.l); n != c.n || !same(q, c.then) {
			t.Errorf("%s: %v, %d, not %v, %d", c.name, q, n, c.then, c.n)
		}
	}
}

// P3.4: a list is told as its entries are, one by one.
func TestAllIsDoOfEach(t *testing.T) {
	for _, q := range []api.Queue{of(0, 0), of(0, 1, 0), of(0, 2, 0, 5), of(1, 0, 5, 0, 7), of(2, 1, 5), {}} {
		for e := range entries {
			for f := range entries {
				if f.Got != 5 {
					continue
				}
				l := []api.Entry{e, f, e}
				now, told := q, 0
				for _, x := range l {
					then, may := fifo.Do(now, x)
					if !may {
						break
					}
					now, told = then, told+1
				}
				if got, n := fifo.All(q, l); n != told || !same(got, now) {
					t.Fatalf("of %v, %v: %v, %d, not %v, %d", q, l, got, n, now, told)
				}
			}
		}
	}
}

// P3.4: which kinds send, and which receive.
func TestSendsAndRecvs(t *testing.T) {
	for _, kind := range []int{least, least + 1, -6, -1, 0, 1, 2, 3, 4, 5, 6, 7, 8, 9, 10, 11, 12, 257, 1<<32 + 1, 1<<32 + 4, most - 1, most} {
		if got := fifo.Sends(kind); got != slices.Contains([]int{1, 2, 3}, kind) {
			t.Errorf("Sends(%d) = %v", kind, got)
		}
		if got := fifo.Recvs(kind); got != slices.Contains([]int{4, 5, 6}, kind) {
			t.Errorf("Recvs(%d) = %v", kind, got)
		}
	}
}

// walk goes through all that may be told of a queue, some entries deep, each value sent being a new one.
func walk(t *testing.T, q api.Queue, in, out []int, deep int) {
	t.Helper()
	if deep == 0 {
		return
	}
	got := -1
	if len(q.Vals) > 0 {
		got = q.Vals[0]
	}
	for kind := range 12 {
		for result := range 9 {
			e := api.Entry{Kind: kind, Val: 100 + len(in), Result: result, Got: got}
			then, may := fifo.Do(q, e)
			if !may {
				continue
			}
			if len(then.Vals) > max(len(q.Vals), q.Cap) {
				t.Fatalf("of %v, %v: %v", q, e, then)
			}
			nextIn, nextOut := in, out
			if fifo.Sends(kind) && result == api.ROK {
				nextIn = slices.Concat(in, []int{e.Val})
			}
			if (fifo.Recvs(kind) || kind == api.KEvict) && result == api.ROK {
				nextOut = slices.Concat(out, []int{got})
			}
			if !slices.Equal(slices.Concat(nextOut, then.Vals), nextIn) {
				t.Fatalf("of %v, %v: in %v, out %v, there %v", q, e, nextIn, nextOut, then.Vals)
			}
			// What leaves the queue leads nowhere that is not gone to from here.
			if !same(then, q) {
				walk(t, then, nextIn, nextOut, deep-1)
			}
		}
	}
}

// P3.5: what came in comes out in that order, once, or is gone; no queue grows above its Cap.
func TestOrder(t *testing.T) {
	for policy := range 3 {
		for _, room := range []int{-1, 0, 1, 2} {
			for _, vals := range [][]int{nil, {5}, {5, 6}, {5, 6, 7}} {
				walk(t, api.Queue{Vals: vals, Cap: room, Policy: policy}, vals, nil, 5)
			}
		}
	}
}

// P3.5, R1: many come in, and come out in that order, also when there are very many.
func TestMany(t *testing.T) {
	const many = 100_000
	l := make([]api.Entry, 0, 3*many)
	for n := range many {
		l = append(l, api.Entry{Kind: api.KSend + n%3, Val: n, Result: api.ROK})
	}
	for n := range many {
		l = append(l, api.Entry{Kind: api.KRecv + n%3, Result: api.ROK, Got: n})
		l = append(l, api.Entry{Kind: api.KSend, Val: many + n, Result: api.ROK})
	}
	q, n := fifo.All(api.Queue{Cap: many}, l)
	if n != len(l) || len(q.Vals) != many {
		t.Fatalf("%d told, %d there", n, len(q.Vals))
	}
	for n, v := range q.Vals {
		if v != many+n {
			t.Fatalf("at %d: %d", n, v)
		}
	}
}

// R3: what is handed in stays as it was, its spare room included, and is not kept; whatever is told, and whatever not.
func TestHandedIn(t *testing.T) {
	was := []int{5, 6, 70, 71}
	for e := range entries {
		for _, q := range []api.Queue{{Cap: 2}, {Cap: 3}, {Cap: 2, Policy: 1}, {Cap: 2, Policy: 2}, {Cap: 3, Mode: 1}, {Cap: 3, Mode: 2}} {
			vals := slices.Clone(was)
			q.Vals = vals[:2]
			all := []api.Entry{e, e, {Kind: 98}, {Kind: 99}}
			told := slices.Clone(all)
			one, _ := fifo.Do(q, e)
			some, _ := fifo.All(q, all[:2])
			none, _ := fifo.All(q, nil)
			if !slices.Equal(vals, was) || !slices.Equal(all, told) {
				t.Fatalf("of %v: %v, %v", e, vals, all)
			}
			for _, got := range []api.Queue{one, some, none} {
				keep := slices.Clone(got.Vals)
				for n := range vals {
					vals[n] = -1
				}
				if !slices.Equal(got.Vals, keep) {
					t.Fatalf("of %v: %v, not %v", e, got.Vals, keep)
				}
				copy(vals, was)
				got.Vals = got.Vals[:cap(got.Vals)]
				for n := range got.Vals {
					got.Vals[n] = -2
				}
				if !slices.Equal(vals, was) {
					t.Fatalf("of %v: %v", e, vals)
				}
			}
		}
	}
}

// R3: two answers share nothing.
func TestTwoAnswers(t *testing.T) {
	q := of(0, 0, 5)
	send := api.Entry{Kind: api.KSend, Val: 6, Result: api.ROK}
	other := api.Entry{Kind: api.KSend, Val: 7, Result: api.ROK}
	base, _ := fifo.Do(api.Queue{Cap: 9, Vals: []int{4}}, api.Entry{Kind: api.KSend, Val: 5, Result: api.ROK})
	a, _ := fifo.Do(base, send)
	b, _ := fifo.Do(base, other)
	if !slices.Equal(a.Vals, []int{4, 5, 6}) || !slices.Equal(b.Vals, []int{4, 5, 7}) {
		t.Errorf("%v, %v", a, b)
	}
	c, _ := fifo.All(q, []api.Entry{send})
	d, _ := fifo.All(q, []api.Entry{send})
	c.Vals[0], c.Vals[1] = -1, -1
	if !slices.Equal(d.Vals, []int{5, 6}) {
		t.Errorf("%v", d)
	}
}

// R4: the same is answered of the same, whatever lies behind a list, and however goroutines run.
func TestSameAnswers(t *testing.T) {
	l := []api.Entry{
		{Kind: api.KEvict, Result: api.ROK, Got: 5}, {Kind: api.KSend, Val: 7, Result: api.ROK},
		{Kind: api.KRecvUntil, Result: api.RTimeout}, {Kind: api.KDrain, Result: api.ROK},
		{Kind: api.KRecv, Result: api.ROK, Got: 6}, {Kind: api.KSend, Val: 8, Result: api.ROK},
	}
	want := of(1, api.DropOld, 7)
	shared := of(0, api.DropOld, 5, 6)
	var all sync.WaitGroup
	for spare := range 8 {
		all.Go(func() {
			mine := shared
			mine.Vals = append(make([]int, 0, 2+spare), shared.Vals...)
			for range 500 {
				for _, q := range []api.Queue{mine, shared} {
					if got, n := fifo.All(q, l); n != 5 || !same(got, want) {
						t.Errorf("%v, %d", got, n)
					}
				}
			}
		})
	}
	all.Wait()
}
