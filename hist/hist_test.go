package hist_test

import (
	"slices"
	"sync"
	"testing"

	"sakia/api"
	"sakia/call"
	"sakia/fabric"
	"sakia/fifo"
	"sakia/hist"
)

const (
	most  = 1<<63 - 1
	least = -1 << 63
	last  = 1 << 40
)

// picks are so many raw picks of a thread.
func picks(id, many int) [][]int {
	return slices.Repeat([][]int{{10, id, 0, 0}}, many)
}

// calls are raw calls, one behind the other.
func calls(l ...[][]int) [][]int {
	return slices.Concat(l...)
}

// one is a single raw call.
func one(l ...int) [][]int {
	return [][]int{l}
}

// past is what became of a script, told of by all states that it went through.
type past struct {
	begun  []api.Call  // a call, or an empty one where it was refused
	states []api.State // the one behind each call
}

// lived is what becomes of a script, by the words of chapter 20.
func lived(c api.Config, raw [][]int) past {
	var p past
	s, err := fabric.New(c)
	if err != api.OK {
		return p
	}
	for _, l := range raw {
		x, err := call.Decode(l)
		if err == api.OK {
			s, err = call.Do(s, x)
		}
		if err != api.OK {
			x = api.Call{}
		}
		p.begun, p.states = append(p.begun, x), append(p.states, s)
	}
	return p
}

// ops are what the chapter says that threads did.
func (p past) ops() []api.Op {
	var l []api.Op
	for n, x := range p.begun {
		if x.Kind < 1 || x.Kind > 8 {
			continue
		}
		o := api.Op{Thread: x.Thread, Kind: x.Kind, Val: x.Val, Begin: n, End: -1}
		for m := n + 1; m < len(p.begun); m++ {
			t := p.states[m].Threads[x.Thread]
			if p.begun[m] == (api.Call{Kind: 10, Thread: x.Thread}) && t.Status == 0 {
				o.End, o.Result, o.Got = m, t.Result, t.Got
				break
			}
		}
		l = append(l, o)
	}
	return l
}

// order is what the chapter says that was told, and when.
func (p past) order() ([]api.Entry, []int) {
	var at []int
	for n, s := range p.states {
		for len(at) < len(s.Log) {
			at = append(at, n)
		}
	}
	if len(p.states) == 0 {
		return nil, nil
	}
	return p.states[len(p.states)-1].Log, at
}

// pairs are what the chapter says that came in, and went out.
func pairs(l []api.Entry) ([][2]int, bool) {
	had := map[int]bool{}
	var all [][2]int
	for n, e := range l {
		if e.Result != 1 || (e.Kind < 4 || e.Kind > 6) && e.Kind != 9 {
			continue
		}
		found := -1
		for m, in := range l[:n] {
			if in.Result == 1 && in.Kind >= 1 && in.Kind <= 3 && !had[m] {
				found = m
				break
			}
		}
		if found < 0 || l[found].Val != e.Got {
			return nil, false
		}
		had[found] = true
		all = append(all, [2]int{found, n})
	}
	return all, true
}

// three has a room of two, and three threads, that park.
var three = api.Config{Log: 1, Threads: 3, Wait: api.Parking}

// of is three, of a policy.
func of(policy int) api.Config {
	c := three
	c.Policy = policy
	return c
}

// filled are sixteen raw calls by which thread 0 sends 5, and 6.
func filled() [][]int {
	return calls(one(1, 0, 5, 0), picks(0, 7), one(1, 0, 6, 0), picks(0, 7))
}

// P21.1: what threads did; the examples of the whole among it.
func TestOps(t *testing.T) {
	type op = api.Op
	five, six := op{Kind: 1, Val: 5, Begin: 0, End: 7, Result: 1}, op{Kind: 1, Val: 6, Begin: 8, End: 15, Result: 1}
	for _, c := range []struct {
		name string
		c    api.Config
		raw  [][]int
		want []op
	}{
		{"nothing", three, nil, nil},
		{"no element", three, [][]int{}, nil},
		{"all refused", three, [][]int{nil, {1}, {1, 0, 7, 0, 0}, {9, 0, 0, 0}, {10, 0, 0, 0}, {11, 0, -1, 0}, {4, 3, 0, 0}, {1, -1, 7, 0}, {3, 0, 7, -1}, {4, 0, 7, 0}}, nil},
		{"time alone goes by", three, [][]int{{11, 0, 3, 0}, {11, 0, 0, 0}}, nil},
		{"of no configuration", api.Config{}, filled(), nil},
		{"of none that may be", api.Config{Log: 1, Threads: 17}, filled(), nil},
		{"one that is not picked", three, one(1, 2, 7, 0), []op{{Thread: 2, Kind: 1, Val: 7, End: -1}}},
		{"one that told, but did not end", three, calls(one(1, 2, 7, 0), picks(2, 6)), []op{{Thread: 2, Kind: 1, Val: 7, End: -1}}},
		{"one that has, but did not end", three, calls(filled(), one(4, 1, 0, 0), picks(1, 6)), []op{five, six, {Thread: 1, Kind: 4, Begin: 16, End: -1}}},
		{"1: one sends", three, calls(one(1, 2, 7, 0), picks(2, 7)), []op{{Thread: 2, Kind: 1, Val: 7, End: 7, Result: 1}}},
		{"picked on, in vain", three, calls(one(1, 2, 7, 0), picks(2, 9)), []op{{Thread: 2, Kind: 1, Val: 7, End: 7, Result: 1}}},
		{"nothing is sent", three, calls(one(1, 0, 0, 0), picks(0, 7)), []op{{Kind: 1, End: 7, Result: 1}}},
		{"the least is sent", three, calls(one(2, 0, least, 0), picks(0, 7)), []op{{Kind: 2, Val: least, End: 7, Result: 1}}},
		{"until a time is sent", three, calls(one(3, 0, most, 5), picks(0, 7)), []op{{Kind: 3, Val: most, End: 7, Result: 1}}},
		{"what is refused has a number", three, calls([][]int{nil, {9, 0, 0, 0}, {10, 0, 0, 0}, {1, 0, 7, 0}, {1, 0, 8, 0}, {7, 0, 0, 0}, {10, 3, 0, 0}}, picks(0, 7)), []op{{Kind: 1, Val: 7, Begin: 3, End: 13, Result: 1}}},
		{"two, one behind the other", three, filled(), []op{five, six}},
		{"two of which the first ends last", three, calls(one(1, 0, 7, 0), one(5, 1, 0, 0), picks(0, 6), picks(1, 7), picks(0, 1)), []op{{Kind: 1, Val: 7, Begin: 0, End: 15, Result: 1}, {Thread: 1, Kind: 5, Begin: 1, End: 14, Result: 1, Got: 7}}},
		{"thread 0 ends nothing of others", three, calls(one(1, 1, 7, 0), picks(1, 6), picks(0, 1), one(11, 0, 1, 0), picks(2, 1)), []op{{Thread: 1, Kind: 1, Val: 7, End: -1}}},
		{"time does not end it", three, calls(one(7, 0, 0, 0), picks(0, 2), one(11, 0, 1, 0), picks(0, 1)), []op{{Kind: 7, End: 4, Result: 1}}},
		{"2: one receives", three, calls(filled(), one(4, 1, 0, 0), picks(1, 7)), []op{five, six, {Thread: 1, Kind: 4, Begin: 16, End: 23, Result: 1, Got: 5}}},
		{"one receives, and then closes", three, calls(filled(), one(4, 1, 0, 0), picks(1, 7), one(8, 1, 0, 0), picks(1, 3)), []op{five, six, {Thread: 1, Kind: 4, Begin: 16, End: 23, Result: 1, Got: 5}, {Thread: 1, Kind: 8, Begin: 24, End: 27, Result: 1}}},
		{"3: one tries to send", three, calls(filled(), one(2, 1, 8, 0), picks(1, 4)), []op{five, six, {Thread: 1, Kind: 2, Val: 8, Begin: 16, End: 20, Result: 2}}},
		{"one tries to receive", three, calls(one(5, 1, 0, 0), picks(1, 4)), []op{{Thread: 1, Kind: 5, End: 4, Result: 4}}},
		{"4: the new one is dropped", of(api.DropNew), calls(filled(), one(1, 1, 8, 0), picks(1, 4)), []op{five, six, {Thread: 1, Kind: 1, Val: 8, Begin: 16, End: 20, Result: 3}}},
		{"4: the oldest one goes", of(api.DropOld), calls(filled(), one(1, 1, 8, 0), picks(1, 10)), []op{five, six, {Thread: 1, Kind: 1, Val: 8, Begin: 16, End: 26, Result: 1}}},
		{"5, 10: one parks", three, calls(one(4, 2, 0, 0), picks(2, 7)), []op{{Thread: 2, Kind: 4, End: -1}}},
		{"5: one parks, is woken, and has it", three, calls(one(4, 2, 0, 0), picks(2, 6), one(1, 0, 7, 0), picks(0, 7), picks(2, 5)), []op{{Thread: 2, Kind: 4, End: 19, Result: 1, Got: 7}, {Kind: 1, Val: 7, Begin: 7, End: 14, Result: 1}}},
		{"6: one is late", three, calls(one(11, 0, 3, 0), one(6, 0, 0, 5), picks(0, 6), one(11, 0, 4, 0), one(11, 0, 1, 0), picks(0, 2)), []op{{Kind: 6, Begin: 1, End: 11, Result: 5}}},
		{"7: the first one in line has it", three, calls(one(4, 2, 0, 0), one(4, 1, 0, 0), picks(1, 1), picks(2, 1), one(1, 0, 7, 0), picks(0, 7), picks(2, 1), picks(1, 6)), []op{{Thread: 2, Kind: 4, Begin: 0, End: -1}, {Thread: 1, Kind: 4, Begin: 1, End: 18, Result: 1, Got: 7}, {Kind: 1, Val: 7, Begin: 4, End: 11, Result: 1}}},
		{"8: one drains", three, calls(filled(), one(7, 2, 0, 0), picks(2, 3), one(1, 1, 8, 0), picks(1, 4), one(4, 0, 0, 0), picks(0, 7), one(4, 0, 0, 0), picks(0, 7), one(4, 0, 0, 0), picks(0, 4)), []op{five, six,
			{Thread: 2, Kind: 7, Begin: 16, End: 19, Result: 1}, {Thread: 1, Kind: 1, Val: 8, Begin: 20, End: 24, Result: 6}, {Kind: 4, Begin: 25, End: 32, Result: 1, Got: 5}, {Kind: 4, Begin: 33, End: 40, Result: 1, Got: 6}, {Kind: 4, Begin: 41, End: 45, Result: 6}}},
		{"9: one halts", three, calls(one(4, 0, 0, 0), picks(0, 6), one(8, 2, 0, 0), picks(2, 3), picks(0, 2)), []op{{Kind: 4, Begin: 0, End: 12, Result: 7}, {Thread: 2, Kind: 8, Begin: 7, End: 10, Result: 1}}},
	} {
		if l := hist.Ops(c.c, c.raw); !slices.Equal(l, c.want) {
			t.Errorf("%s: %+v, not %+v", c.name, l, c.want)
		}
		if !hist.Linear(c.c, c.raw) {
			t.Errorf("%s: in no order", c.name)
		}
	}
}

// P21.2: what was told, and which call told it.
func TestOrder(t *testing.T) {
	type entry = api.Entry
	five, six := entry{Kind: 1, Val: 5, Result: 1}, entry{Kind: 1, Val: 6, Result: 1}
	for _, c := range []struct {
		name string
		c    api.Config
		raw  [][]int
		want []entry
		at   []int
	}{
		{"nothing", three, nil, nil, nil},
		{"no element", three, [][]int{}, nil, nil},
		{"all refused", three, [][]int{nil, {1}, {9, 0, 0, 0}, {10, 0, 0, 0}, {11, 0, -1, 0}}, nil, nil},
		{"of no configuration", api.Config{}, filled(), nil, nil},
		{"nobody told", three, calls(one(1, 0, 7, 0), picks(0, 4), one(11, 0, 3, 0), one(4, 1, 0, 0), picks(1, 3)), nil, nil},
		{"one told, and did not end", three, calls(one(1, 0, 7, 0), picks(0, 5)), []entry{{Kind: 1, Val: 7, Result: 1}}, []int{5}},
		{"it is told once", three, filled(), []entry{five, six}, []int{5, 13}},
		{"what is refused has a number", three, calls([][]int{nil, {9, 0, 0, 0}, {10, 0, 0, 0}}, filled(), [][]int{nil}), []entry{five, six}, []int{8, 16}},
		{"who is told of last began first", three, calls(one(1, 0, 7, 0), one(1, 1, 8, 0), one(8, 2, 0, 0), picks(1, 5), picks(2, 1), picks(0, 3), picks(1, 2), picks(0, 2)),
			[]entry{{Thread: 1, Kind: 1, Val: 8, Result: 1}, {Thread: 2, Kind: 8, Result: 1}, {Kind: 1, Val: 7, Result: 7}}, []int{7, 8, 15}},
		{"one receives", three, calls(filled(), one(6, 1, 0, 3), picks(1, 7)), []entry{five, six, {Thread: 1, Kind: 6, Result: 1, Got: 5}}, []int{5, 13, 20}},
		{"the oldest one goes", of(api.DropOld), calls(filled(), one(1, 1, 8, 0), picks(1, 10)),
			[]entry{five, six, {Thread: 1, Kind: 9, Val: 8, Result: 1, Got: 5}, {Thread: 1, Kind: 1, Val: 8, Result: 1}}, []int{5, 13, 20, 24}},
		{"the oldest one goes, and no more yet", of(api.DropOld), calls(filled(), one(1, 1, 8, 0), picks(1, 4)),
			[]entry{five, six, {Thread: 1, Kind: 9, Val: 8, Result: 1, Got: 5}}, []int{5, 13, 20}},
	} {
		l, at := hist.Order(c.c, c.raw)
		if !slices.Equal(l, c.want) || !slices.Equal(at, c.at) {
			t.Errorf("%s: %+v, %v, not %+v, %v", c.name, l, at, c.want, c.at)
		}
		if !hist.Linear(c.c, c.raw) {
			t.Errorf("%s: in no order", c.name)
		}
	}
}

// linear tells what is wrong with a script by the words of P21.3: nothing, or what there is.
func linear(c api.Config, l []api.Op, log []api.Entry, at []int) string {
	s, _ := fabric.New(c)
	if _, n := fifo.All(fabric.Queue(s), log); n != len(log) {
		return "an entry may not be told"
	}
	for _, o := range l {
		many, right := 0, 0
		for n, e := range log {
			if e.Thread != o.Thread || e.Kind == 9 || at[n] <= o.Begin || o.End >= 0 && at[n] > o.End {
				continue
			}
			many++
			if e.Kind == o.Kind && e.Val == o.Val && e.Result == o.Result && e.Got == o.Got {
				right++
			}
		}
		if many > 1 || o.End >= 0 && right != 1 {
			return "an op is not told of as it should"
		}
	}
	return ""
}

// ordered tells what is wrong with the order of a script by the words of P21.5: nothing, or what there is.
func ordered(l []api.Op, log []api.Entry, at []int) string {
	place := func(o api.Op) int {
		for n, e := range log {
			if e.Thread == o.Thread && e.Kind != 9 && at[n] > o.Begin && at[n] <= o.End {
				return n
			}
		}
		return -1
	}
	for _, a := range l {
		for _, b := range l {
			if a.End >= 0 && b.End >= 0 && a.End < b.Begin && place(a) >= place(b) {
				return "an op is told of ahead of one that had ended when it began"
			}
		}
	}
	return ""
}

// proved holds what is told of a script against the chapter's words, and tells how many ops, and entries, there are.
func proved(t *testing.T, c api.Config, raw [][]int) (int, int) {
	t.Helper()
	p := lived(c, raw)
	l, want := hist.Ops(c, raw), p.ops()
	if !slices.Equal(l, want) {
		t.Fatalf("%+v: Ops(%v) = %+v, not %+v", c, raw, l, want)
	}
	log, at := hist.Order(c, raw)
	if told, when := p.order(); !slices.Equal(log, told) || !slices.Equal(at, when) {
		t.Fatalf("%+v: Order(%v) = %+v, %v, not %+v, %v", c, raw, log, at, told, when)
	}
	wrong := linear(c, l, log, at)
	if is := hist.Linear(c, raw); wrong != "" || !is {
		t.Fatalf("%+v: Linear(%v) = %t: %s", c, raw, is, wrong)
	}
	if wrong := ordered(l, log, at); wrong != "" {
		t.Fatalf("%+v: %v: %s", c, raw, wrong)
	}
	if len(p.states) > 0 {
		s, _ := fabric.New(c)
		q, _ := fifo.All(fabric.Queue(s), log)
		is := fabric.Queue(p.states[len(p.states)-1])
		if !slices.Equal(q.Vals, is.Vals) || q.Mode != is.Mode {
			t.Fatalf("%+v: %v: told of a queue %+v, not %+v", c, raw, q, is)
		}
	}
	two, is := hist.Pairs(log)
	if all, good := pairs(log); !slices.Equal(two, all) || !is || !good {
		t.Fatalf("Pairs(%+v) = %v, %t, not %v, %t", log, two, is, all, good)
	}
	return len(l), len(log)
}

// P21.1 to P21.5: all short scripts, of fabrics of four sorts, as the words of the chapter say it.
func TestScriptsAsTheWordsSay(t *testing.T) {
	alphabet := [][]int{{2, 0, 7, 0}, {6, 1, 0, 2}, {8, 0, 0, 0}, {10, 0, 0, 0}, {10, 1, 0, 0}, {11, 0, 1, 0}, {9, 0, 0, 0}}
	for _, v := range []struct {
		policy, deep int
		ahead        [][]int
	}{
		{api.Block, 5, nil},
		// Thread 1 is about to park.
		{api.DropNew, 5, calls(one(6, 1, 0, 1), picks(1, 5))},
		// Thread 0 sends, and is about to tell of it.
		{api.DropNew, 4, calls(one(1, 0, 5, 0), picks(0, 7), one(3, 0, 6, 5), picks(0, 4))},
		// It is full, and thread 0 is about to let the oldest one go.
		{api.DropOld, 4, calls(one(1, 0, 5, 0), picks(0, 7), one(1, 0, 6, 0), picks(0, 7), one(1, 0, 7, 0), picks(0, 3))},
	} {
		c := api.Config{Log: 1, Threads: 2, Policy: v.policy, Wait: api.Parking}
		var on func(raw [][]int, deep int)
		on = func(raw [][]int, deep int) {
			if deep == 0 {
				proved(t, c, raw)
				return
			}
			for _, l := range alphabet {
				on(append(raw, l), deep-1)
			}
		}
		on(slices.Clip(v.ahead), v.deep)
	}
}

// configs goes through configurations of all sorts, at all bounds and beside them.
func configs(yield func(c api.Config) bool) {
	for _, log := range []int{least, -1, 0, 1, 6, 7, 1 << 32, most} {
		for _, threads := range []int{-1, 0, 1, 2, 16, 17, 1<<32 + 1} {
			for policy := -1; policy < 4; policy++ {
				for wait := -1; wait < 5; wait++ {
					for _, spin := range []int{-1, 0, 1, 8, 9} {
						if !yield(api.Config{Log: log, Threads: threads, Policy: policy, Wait: wait, Spin: spin, Single: spin > 0}) ||
							!yield(api.Config{Log: log, Threads: threads, Policy: policy, Wait: wait, Yield: spin}) {
							return
						}
					}
				}
			}
		}
	}
}

// P21.1 to P21.3: of a configuration that may not be nothing is told, whatever the raw calls, and that is linear.
func TestConfigs(t *testing.T) {
	raw := calls([][]int{{11, 0, 3, 0}, {1, 0, 7, 0}}, picks(0, 7), [][]int{{10, 1, 0, 0}, {}})
	told := map[api.Errno]int{}
	for c := range configs {
		_, err := fabric.New(c)
		told[err]++
		ops, entries := proved(t, c, raw)
		if is := ops == 1 && entries == 1; is != (err == api.OK) {
			t.Fatalf("%+v: %d ops, %d entries, and %d", c, ops, entries, err)
		}
	}
	if len(told) != 2 || told[api.OK] < 50 || told[api.ErrConfig] < 1000 {
		t.Errorf("told %v", told)
	}
}

// script is a script of so many raw calls that hangs on its seed alone; some of them are refused.
func script(c api.Config, seed uint32, many int) [][]int {
	next := func(below int) int {
		seed = seed*1664525 + 1013904223
		return int(seed>>8) % below
	}
	var raw [][]int
	for range many {
		id := next(c.Threads + 1)
		switch kind := next(60); kind {
		case 1, 2, 3:
			raw = append(raw, []int{kind, id, next(100), (kind / 3) * next(9)})
		case 4, 5, 6:
			raw = append(raw, []int{kind, id, 0, (kind / 6) * next(9)})
		case 7, 8:
			// Who closes ends it all, so there is little of that.
			if next(20) == 0 {
				raw = append(raw, []int{kind, id, 0, 0})
			}
		case 9:
			raw = append(raw, []int{11, 0, next(4) - 1, 0})
		case 10:
			raw = append(raw, []int{next(13), next(18) - 1, next(2), next(2)})
		case 11:
			raw = append(raw, make([]int, next(6)))
		default:
			raw = append(raw, []int{10, id, 0, 0})
		}
	}
	return raw
}

// several has configurations that may be, of all policies and ways to wait.
func several() []api.Config {
	var l []api.Config
	for _, threads := range []int{1, 2, 3, 5, 16} {
		for policy := range 3 {
			for wait := range 4 {
				for log := 1; log < 4; log++ {
					c := api.Config{Log: log, Threads: threads, Policy: policy, Wait: wait, Single: log == 3}
					if wait == api.Phased {
						c.Spin, c.Yield = log, 1
					}
					l = append(l, c)
				}
			}
		}
	}
	return l
}

// P21.1 to P21.5: long scripts, of fabrics of all sorts; what is ahead hangs on nothing behind it.
func TestLongScripts(t *testing.T) {
	results, kinds, open := map[int]int{}, map[int]int{}, 0
	for seed, c := range several() {
		raw := script(c, uint32(seed), 1000)
		proved(t, c, raw)
		l := hist.Ops(c, raw)
		log, at := hist.Order(c, raw)
		for _, o := range l {
			if o.End < 0 {
				open++
			}
			results[o.Result]++
		}
		for _, e := range log {
			kinds[e.Kind]++
		}
		for _, many := range []int{0, 1, 7, 100, len(raw) - 1} {
			part, when := hist.Order(c, raw[:many])
			if n := len(part); n > len(log) || !slices.Equal(part, log[:n]) || !slices.Equal(when, at[:n]) {
				t.Fatalf("%+v: %v: the first %d: %+v, %v, not of %+v, %v", c, raw, many, part, when, log, at)
			}
			for n, o := range hist.Ops(c, raw[:many]) {
				want := l[n]
				if want.End >= many {
					want.End, want.Result, want.Got = -1, 0, 0
				}
				if o != want {
					t.Fatalf("%+v: %v: the first %d: %+v, not %+v", c, raw, many, o, want)
				}
			}
		}
	}
	for n := range 8 {
		if results[n] < 10 {
			t.Errorf("result %d there was %d times only", n, results[n])
		}
	}
	for n := 1; n < 10; n++ {
		if kinds[n] < 20 {
			t.Errorf("kind %d was told %d times only", n, kinds[n])
		}
	}
	if open < 20 {
		t.Errorf("%d are open only", open)
	}
}

// in is an entry that lets a value in; out is one by which it goes out, of a kind.
func in(n int) api.Entry { return api.Entry{Thread: 1, Kind: api.KSend, Val: n, Result: api.ROK} }
func out(kind, n int) api.Entry {
	return api.Entry{Thread: 2, Kind: kind, Result: api.ROK, Got: n}
}

// P21.4: what came in, and went out; the chapter's example is the fourth one.
func TestPairs(t *testing.T) {
	type two = [2]int
	for _, c := range []struct {
		name string
		l    []api.Entry
		want []two
		is   bool
	}{
		{"nothing", nil, nil, true},
		{"no element", []api.Entry{}, nil, true},
		{"one came in", []api.Entry{in(7)}, nil, true},
		{"one came in, and went out", []api.Entry{in(7), out(4, 7)}, []two{{0, 1}}, true},
		{"one went out ahead of that", []api.Entry{out(4, 7), in(7)}, nil, false},
		{"one went out, of none", []api.Entry{out(4, 0)}, nil, false},
		{"one went, of none", []api.Entry{out(9, 0)}, nil, false},
		{"another one went out", []api.Entry{in(7), out(4, 8)}, nil, false},
		{"the second one went out first", []api.Entry{in(7), in(8), out(4, 8), out(4, 7)}, nil, false},
		{"one went out twice", []api.Entry{in(7), out(4, 7), out(4, 7)}, nil, false},
		{"two of one value", []api.Entry{in(7), in(7), out(4, 7), out(4, 7)}, []two{{0, 2}, {1, 3}}, true},
		{"one by one", []api.Entry{in(7), out(5, 7), in(8), out(6, 8)}, []two{{0, 1}, {2, 3}}, true},
		{"one is left", []api.Entry{in(7), in(8), in(9), out(4, 7), out(4, 8)}, []two{{0, 3}, {1, 4}}, true},
		{"one goes", []api.Entry{in(7), in(8), out(9, 7), in(9), out(4, 8), out(9, 9)}, []two{{0, 2}, {1, 4}, {3, 5}}, true},
		{"the last one is wrong", []api.Entry{in(7), in(8), out(9, 7), out(4, 9)}, nil, false},
		{"the first one is wrong", []api.Entry{in(7), in(8), out(9, 8), out(4, 8)}, nil, false},
		{"all that send", []api.Entry{{Kind: 1, Val: 1, Result: 1}, {Kind: 2, Val: 2, Result: 1}, {Kind: 3, Val: 3, Result: 1}, out(4, 1), out(4, 2), out(4, 3)}, []two{{0, 3}, {1, 4}, {2, 5}}, true},
		{"all that receive", []api.Entry{in(1), in(2), in(3), out(4, 1), out(5, 2), out(6, 3)}, []two{{0, 3}, {1, 4}, {2, 5}}, true},
		{"what was refused", []api.Entry{{Kind: 1, Val: 7, Result: 3}, in(8), {Kind: 2, Val: 9, Result: 2}, {Kind: 4, Result: 7, Got: 5}, out(4, 8), {Kind: 9, Result: 2, Got: 5}}, []two{{1, 4}}, true},
		{"of no result", []api.Entry{{Kind: 1, Val: 7}, {Kind: 4, Got: 7}}, nil, true},
		{"who closes", []api.Entry{{Kind: 7, Val: 7, Result: 1, Got: 7}, in(8), {Kind: 8, Val: 8, Result: 1, Got: 8}, out(4, 8)}, []two{{1, 3}}, true},
		{"of no kind", []api.Entry{{Kind: 0, Val: 7, Result: 1}, {Kind: 10, Result: 1, Got: 7}, {Kind: 11, Result: 1}, {Kind: -1, Result: 1}, {Kind: most, Result: 1}, {Kind: 1<<32 + 4, Result: 1}}, nil, true},
		{"Got of who sends, and Val of who receives", []api.Entry{{Kind: 1, Val: 7, Result: 1, Got: 8}, {Kind: 4, Val: 9, Result: 1, Got: 7}, in(4), {Kind: 9, Val: 6, Result: 1, Got: 4}}, []two{{0, 1}, {2, 3}}, true},
		{"all numbers", []api.Entry{in(least), in(most), {Thread: least, Kind: 6, Result: 1, Got: least}, {Thread: most, Kind: 9, Result: 1, Got: most}}, []two{{0, 2}, {1, 3}}, true},
	} {
		if l, is := hist.Pairs(c.l); !slices.Equal(l, c.want) || is != c.is {
			t.Errorf("%s: %v, %t, not %v, %t", c.name, l, is, c.want, c.is)
		}
	}
}

// P21.4: all short lists, as the words of the chapter say it.
func TestPairsAsTheWordsSay(t *testing.T) {
	alphabet := []api.Entry{
		in(1), {Kind: 2, Val: 2, Result: 1}, {Kind: 3, Val: 1, Result: 5}, out(4, 1), out(5, 2), out(9, 1),
		{Kind: 6, Result: 4, Got: 1}, {Kind: 9, Result: 2, Got: 1}, {Kind: 7, Val: 1, Result: 1, Got: 1},
	}
	told := map[bool]int{}
	var on func(l []api.Entry, deep int)
	on = func(l []api.Entry, deep int) {
		two, is := hist.Pairs(l)
		all, good := pairs(l)
		told[is]++
		if !slices.Equal(two, all) || is != good {
			t.Fatalf("Pairs(%+v) = %v, %t, not %v, %t", l, two, is, all, good)
		}
		if deep == 0 {
			return
		}
		for _, e := range alphabet {
			on(append(l, e), deep-1)
		}
	}
	on(nil, 6)
	if told[true] < 10_000 || told[false] < 10_000 {
		t.Errorf("told %v", told)
	}
}

// R1: raw calls of all numbers, and of all lengths.
func TestNumbers(t *testing.T) {
	numbers := []int{least, -last, -1, 0, 1, 2, 3, 6, 10, 11, 15, 16, last, last + 1, 1<<32 + 1, most}
	var raw [][]int
	for _, kind := range numbers {
		for _, id := range numbers {
			for _, val := range numbers {
				for _, until := range numbers {
					raw = append(raw, []int{kind, id, val, until})
				}
			}
		}
		raw = append(raw, slices.Repeat([]int{kind}, max(0, min(kind, 1000))))
	}
	if ops, _ := proved(t, api.Config{Log: 1, Threads: 2, Wait: api.Parking}, raw); ops != 2 {
		t.Errorf("%d ops", ops)
	}
	c := api.Config{Log: 1, Threads: 2}
	if l := hist.Ops(c, [][]int{make([]int, 10_000_000), {1, 0, 7, 0}}); !slices.Equal(l, []api.Op{{Kind: 1, Val: 7, Begin: 1, End: -1}}) {
		t.Errorf("of many numbers: %+v", l)
	}
}

// R1: a script of many raw calls, of which much is told, while two that began first are open still, and a long list.
func TestLong(t *testing.T) {
	c := api.Config{Log: 6, Threads: 16, Wait: api.Parking}
	raw := calls(one(4, 0, 0, 0), one(1, 1, 7, 0), slices.Repeat(calls(one(5, 15, 0, 0), picks(15, 4)), 10_000))
	if l := hist.Ops(c, raw); len(l) != 10_002 || l[10_001] != (api.Op{Thread: 15, Kind: 5, Begin: 49_997, End: 50_001, Result: 4}) {
		t.Errorf("%d ops", len(l))
	}
	log, at := hist.Order(c, raw)
	if len(log) != 10_000 || len(at) != 10_000 || log[9_999] != (api.Entry{Thread: 15, Kind: 5, Result: 4}) || at[9_999] != 50_000 {
		t.Errorf("%d told", len(log))
	}
	if !hist.Linear(c, raw) {
		t.Error("in no order")
	}
	many := slices.Concat(slices.Repeat([]api.Entry{in(7)}, 1_000_000), slices.Repeat([]api.Entry{out(4, 7)}, 1_000_000))
	two, is := hist.Pairs(many)
	if !is || len(two) != 1_000_000 || two[999_999] != [2]int{999_999, 1_999_999} {
		t.Errorf("%d pairs, %t", len(two), is)
	}
}

// spare is a list with room behind it, in which something stands.
func spare[T any](l []T, behind T) []T {
	m := slices.Grow(slices.Clone(l), 4)
	fill(m[len(m):cap(m)], behind)
	return m
}

// fill writes one thing all over a list.
func fill[T any](l []T, x T) {
	for n := range l {
		l[n] = x
	}
}

// scripts has so many scripts of all lengths; some have a configuration that may not be.
func scripts(many int) []api.Script {
	l := make([]api.Script, many)
	all := several()
	for n := range l {
		c := all[n*7%len(all)]
		l[n] = api.Script{Config: c, Raw: script(c, uint32(n), n*37%400)}
		if n%5 == 3 {
			l[n].Config.Log = 7
		}
	}
	return l
}

// answer is all that is told of a script.
type answer struct {
	ops    []api.Op
	log    []api.Entry
	at     []int
	linear bool
	two    [][2]int
	is     bool
}

// answers is all that is told of a script.
func answers(c api.Config, raw [][]int) answer {
	var a answer
	a.ops = hist.Ops(c, raw)
	a.log, a.at = hist.Order(c, raw)
	a.linear = hist.Linear(c, raw)
	a.two, a.is = hist.Pairs(a.log)
	return a
}

// apart is an answer that shares no memory with another one.
func (a answer) apart() answer {
	a.ops, a.log, a.at, a.two = slices.Clone(a.ops), slices.Clone(a.log), slices.Clone(a.at), slices.Clone(a.two)
	return a
}

// spoil writes all over what is answered, and over the room behind it.
func (a answer) spoil() {
	fill(a.ops[:cap(a.ops)], api.Op{Val: -99})
	fill(a.log[:cap(a.log)], api.Entry{Val: -99})
	fill(a.at[:cap(a.at)], -99)
	fill(a.two[:cap(a.two)], [2]int{-99})
}

// same tells whether two answers have the same in them.
func same(a, b answer) bool {
	return slices.Equal(a.ops, b.ops) && slices.Equal(a.log, b.log) && slices.Equal(a.at, b.at) && a.linear == b.linear && slices.Equal(a.two, b.two) && a.is == b.is
}

// R3: what is handed in is neither changed nor kept, its spare room included; nor is what is answered.
func TestHandedIn(t *testing.T) {
	for _, x := range scripts(60) {
		raw := make([][]int, len(x.Raw))
		for n, l := range x.Raw {
			raw[n] = spare(l, -77)
		}
		raw = spare(raw, []int{-77})
		a := answers(x.Config, raw)
		was := a.apart()
		for n, l := range raw {
			if !slices.Equal(l, x.Raw[n]) || slices.ContainsFunc(l[len(l):cap(l)], func(v int) bool { return v != -77 }) {
				t.Fatalf("%v: call %d is changed", x, n)
			}
			fill(l[:cap(l)], -99)
		}
		for _, l := range raw[len(raw):cap(raw)] {
			if !slices.Equal(l, []int{-77}) {
				t.Fatalf("%v: what is behind is changed", x)
			}
		}
		fill(raw[:cap(raw)], nil)
		if !same(a, was) {
			t.Fatalf("%v: what was handed in is kept", x)
		}
		a.spoil()
		if !same(answers(x.Config, x.Raw), was) {
			t.Fatalf("%v: what was answered is kept", x)
		}
	}
	l := spare([]api.Entry{in(5), in(6), out(4, 5), out(9, 6)}, out(4, 5))
	was := slices.Clone(l[:cap(l)])
	two, is := hist.Pairs(l)
	if !slices.Equal(l[:cap(l)], was) {
		t.Errorf("entries are %+v", l[:cap(l)])
	}
	fill(l[:cap(l)], in(9))
	if !slices.Equal(two, [][2]int{{0, 2}, {1, 3}}) || !is {
		t.Errorf("with room behind %v, %t", two, is)
	}
}

// R4: the same is answered of the same, in whatever order it is asked, whatever room is behind, and however goroutines run.
func TestSameAnswers(t *testing.T) {
	l := scripts(60)
	var want []answer
	for _, x := range l {
		want = append(want, answers(x.Config, x.Raw))
	}
	var group sync.WaitGroup
	for n := range 8 {
		group.Go(func() {
			for m := range l {
				m = (m*7 + n) % len(l)
				raw := l[m].Raw
				if n%2 == 1 {
					raw = spare(raw, []int{1, 0, 7, 0})
				}
				if !same(answers(l[m].Config, raw), want[m]) {
					t.Errorf("of %+v another answer", l[m])
				}
			}
		})
	}
	group.Wait()
}
