package op_test

import (
	"slices"
	"sync"
	"testing"

	"sakia/api"
	"sakia/op"
)

const (
	most  = 1<<63 - 1
	least = -1 << 63
)

// does are the eight, in order.
var does = []int{api.KSend, api.KTrySend, api.KSendUntil, api.KRecv, api.KTryRecv, api.KRecvUntil, api.KDrain, api.KHalt}

// wrong are kinds that threads do not do: beside the eight, others of api, some that go round to one of the eight, and far outside.
var wrong = []int{least, least + 1, least + api.KSend, -1 << 40, -8, -7, -4, -2, -1, 0, api.KEvict, api.KPick, api.KTick, 12, 16, 255, 1<<8 + 1, 1<<16 + 4, 1<<32 + 1, 1<<32 + 4, 1<<32 + 7, 1 << 40, most - 1, most}

// outside are results that there are not.
var outside = []int{least, least + 1, -1 << 40, -7, -1, 8, 9, 15, 1<<8 + 1, 1<<32 + 1, 1<<32 + 6, 1 << 40, most}

// P11.1: of which sort all eight are.
func TestKinds(t *testing.T) {
	for _, c := range []struct {
		name        string
		kind, side  int
		timed, once bool
	}{
		{"KSend", 1, 1, false, false},
		{"KTrySend", 2, 1, false, true},
		{"KSendUntil", 3, 1, true, false},
		{"KRecv", 4, 2, false, false},
		{"KTryRecv", 5, 2, false, true},
		{"KRecvUntil", 6, 2, true, false},
		{"KDrain", 7, 3, false, false},
		{"KHalt", 8, 3, false, false},
	} {
		if !op.Check(c.kind) {
			t.Errorf("%s: it may not be", c.name)
		}
		if side := op.Side(c.kind); side != c.side {
			t.Errorf("%s: side %d", c.name, side)
		}
		if is := op.Timed(c.kind); is != c.timed {
			t.Errorf("%s: timed: %v", c.name, is)
		}
		if is := op.Once(c.kind); is != c.once {
			t.Errorf("%s: once: %v", c.name, is)
		}
	}
}

// P11.1, R1: what threads do not do is of no sort.
func TestWrongKinds(t *testing.T) {
	for _, kind := range wrong {
		if op.Check(kind) || op.Side(kind) != 0 || op.Timed(kind) || op.Once(kind) {
			t.Errorf("%d: %v, %d, %v, %v", kind, op.Check(kind), op.Side(kind), op.Timed(kind), op.Once(kind))
		}
	}
}

// P11.2: who may, and the first thing that is against it.
func TestMay(t *testing.T) {
	for _, c := range []struct {
		name     string
		threads  int
		single   bool
		id, kind int
		want     api.Errno
	}{
		{"the first one sends", 3, false, 0, api.KSend, api.OK},
		{"the last one sends", 3, false, 2, api.KSend, api.OK},
		{"the last one tries to send", 3, false, 2, api.KTrySend, api.OK},
		{"the last one sends until a time", 3, false, 2, api.KSendUntil, api.OK},
		{"the last one receives", 3, false, 2, api.KRecv, api.OK},
		{"the last one tries to receive", 3, false, 2, api.KTryRecv, api.OK},
		{"the last one receives until a time", 3, false, 2, api.KRecvUntil, api.OK},
		{"the last one drains", 3, false, 2, api.KDrain, api.OK},
		{"the last one halts", 3, false, 2, api.KHalt, api.OK},
		{"the last of 16", 16, false, 15, api.KRecv, api.OK},
		{"the only one", 1, false, 0, api.KRecv, api.OK},

		{"behind the last one", 3, false, 3, api.KSend, api.ErrThread},
		{"far behind the last one", 3, false, most, api.KSend, api.ErrThread},
		{"one that goes round to 0", 3, false, 1 << 32, api.KSend, api.ErrThread},
		{"below 0", 3, false, -1, api.KSend, api.ErrThread},
		{"far below 0", 3, false, least, api.KSend, api.ErrThread},
		{"behind the only one", 1, false, 1, api.KHalt, api.ErrThread},
		{"behind the last of 16", 16, false, 16, api.KDrain, api.ErrThread},
		{"below 0, of Single", 3, true, -1, api.KSend, api.ErrThread},
		{"behind the last one, of Single", 3, true, 3, api.KHalt, api.ErrThread},

		{"kind 0", 3, false, 0, 0, api.ErrCall},
		{"kind below 0", 3, false, 2, -1, api.ErrCall},
		{"an evict", 3, false, 2, api.KEvict, api.ErrCall},
		{"a pick", 3, false, 2, api.KPick, api.ErrCall},
		{"a tick", 3, false, 0, api.KTick, api.ErrCall},
		{"the least kind", 3, false, 0, least, api.ErrCall},
		{"the greatest kind", 3, false, 0, most, api.ErrCall},
		{"kind 0, of Single", 3, true, 0, 0, api.ErrCall},
		{"an evict, of Single, not by 0", 3, true, 2, api.KEvict, api.ErrCall},
		{"the greatest kind, of Single, not by 0", 3, true, 1, most, api.ErrCall},

		{"kind 0, behind the last one", 3, false, 3, 0, api.ErrThread},
		{"an evict, behind the last one", 3, false, 3, api.KEvict, api.ErrThread},
		{"an evict, below 0", 3, false, -1, api.KEvict, api.ErrThread},
		{"the least kind, of Single, below 0", 3, true, -1, least, api.ErrThread},

		{"0 receives, of Single", 3, true, 0, api.KRecv, api.OK},
		{"0 tries to receive, of Single", 3, true, 0, api.KTryRecv, api.OK},
		{"0 receives until a time, of Single", 3, true, 0, api.KRecvUntil, api.OK},
		{"0 sends, of Single", 3, true, 0, api.KSend, api.OK},
		{"0 halts, of Single", 3, true, 0, api.KHalt, api.OK},
		{"1 receives, of Single", 3, true, 1, api.KRecv, api.ErrThread},
		{"1 tries to receive, of Single", 3, true, 1, api.KTryRecv, api.ErrThread},
		{"1 receives until a time, of Single", 3, true, 1, api.KRecvUntil, api.ErrThread},
		{"the last one receives, of Single", 3, true, 2, api.KRecv, api.ErrThread},
		{"the last one sends, of Single", 3, true, 2, api.KSend, api.OK},
		{"the last one tries to send, of Single", 3, true, 2, api.KTrySend, api.OK},
		{"the last one sends until a time, of Single", 3, true, 2, api.KSendUntil, api.OK},
		{"the last one drains, of Single", 3, true, 2, api.KDrain, api.OK},
		{"the last one halts, of Single", 3, true, 2, api.KHalt, api.OK},

		{"no threads", 0, false, 0, api.KSend, api.ErrThread},
		{"no threads, of Single", 0, true, 0, api.KRecv, api.ErrThread},
		{"threads below 0", -1, false, 0, api.KSend, api.ErrThread},
		{"threads below 0, and so is it", -1, false, -2, api.KSend, api.ErrThread},
		{"threads far below 0", least, false, 0, api.KSend, api.ErrThread},
		{"threads far below 0, the greatest one", least, false, most, api.KSend, api.ErrThread},
		{"more threads than there may be", 17, false, 16, api.KSend, api.OK},
		{"far more threads than there may be", most, false, most - 1, api.KSend, api.OK},
		{"far more threads than there may be, of Single", most, true, most - 1, api.KRecv, api.ErrThread},
		{"far more threads than there may be, behind them", most, false, most, api.KSend, api.ErrThread},
	} {
		if e := op.May(api.Config{Threads: c.threads, Single: c.single}, c.id, c.kind); e != c.want {
			t.Errorf("%s: %d", c.name, e)
		}
	}
}

// P11.2: nothing of a configuration is asked but its Threads and Single, also where it may not be.
func TestMayOfAnyConfig(t *testing.T) {
	for _, single := range []bool{false, true} {
		for _, n := range []int{least, -1, 0, 1, 3, 7, 9, most} {
			plain := api.Config{Threads: 3, Single: single}
			other := api.Config{Log: n, Threads: 3, Policy: n, Wait: n, Spin: n, Yield: n, Single: single}
			for _, kind := range slices.Concat(does, wrong) {
				for id := -1; id < 4; id++ {
					if a, b := op.May(plain, id, kind), op.May(other, id, kind); a != b {
						t.Fatalf("%d, %d: %d, but %d of %+v", id, kind, a, b, other)
					}
				}
			}
		}
	}
}

// may is what the chapter says of May.
func may(c api.Config, id, kind int) api.Errno {
	if !(0 <= id && id <= c.Threads-1) || c.Threads == least {
		return api.ErrThread
	}
	if !slices.Contains(does, kind) {
		return api.ErrCall
	}
	if c.Single && slices.Contains(does[3:6], kind) && id != 0 {
		return api.ErrThread
	}
	return api.OK
}

// P11.2: at all edges, as the words of the chapter say it.
func TestMayAsTheWordsSay(t *testing.T) {
	ids := []int{least, least + 1, -2, -1, 0, 1, 2, 3, 14, 15, 16, 17, 1 << 32, most - 1, most}
	for _, single := range []bool{false, true} {
		for _, threads := range []int{least, least + 1, -1, 0, 1, 2, 3, 4, 15, 16, 17, most - 1, most} {
			c := api.Config{Threads: threads, Single: single}
			for _, id := range ids {
				for _, kind := range slices.Concat(does, wrong) {
					if e, want := op.May(c, id, kind), may(c, id, kind); e != want {
						t.Fatalf("of %d, %v: May(%d, %d) = %d, not %d", threads, single, id, kind, e, want)
					}
				}
			}
		}
	}
}

// P11.3: with which results each of the eight may end.
func TestEnds(t *testing.T) {
	for _, c := range []struct {
		name string
		kind int
		ends []int
	}{
		{"KSend", api.KSend, []int{api.ROK, api.RDropped, api.RClosed, api.RHalted}},
		{"KTrySend", api.KTrySend, []int{api.ROK, api.RFull, api.RDropped, api.RClosed, api.RHalted}},
		{"KSendUntil", api.KSendUntil, []int{api.ROK, api.RDropped, api.RTimeout, api.RClosed, api.RHalted}},
		{"KRecv", api.KRecv, []int{api.ROK, api.RClosed, api.RHalted}},
		{"KTryRecv", api.KTryRecv, []int{api.ROK, api.REmpty, api.RClosed, api.RHalted}},
		{"KRecvUntil", api.KRecvUntil, []int{api.ROK, api.RTimeout, api.RClosed, api.RHalted}},
		{"KDrain", api.KDrain, []int{api.ROK}},
		{"KHalt", api.KHalt, []int{api.ROK}},
	} {
		for result := api.RNone; result <= api.RHalted; result++ {
			if is := op.Ends(c.kind, result); is != slices.Contains(c.ends, result) {
				t.Errorf("%s with %d: %v", c.name, result, is)
			}
		}
	}
}

// P11.3, R1: nothing ends with a result that there is not, and what threads do not do ends with none.
func TestEndsWrong(t *testing.T) {
	for _, kind := range slices.Concat(does, wrong) {
		for _, result := range append(outside, api.RNone) {
			if op.Ends(kind, result) {
				t.Errorf("%d with %d", kind, result)
			}
		}
	}
	for _, kind := range wrong {
		for result := api.RNone; result <= api.RHalted; result++ {
			if op.Ends(kind, result) {
				t.Errorf("%d with %d", kind, result)
			}
		}
	}
}

// P11.4: who tries once is not timed, and each of these is one of the eight that waits for another thread.
func TestOnceOrTimed(t *testing.T) {
	for _, kind := range slices.Concat(does, wrong) {
		if op.Once(kind) && op.Timed(kind) {
			t.Errorf("%d is both", kind)
		}
		if side := op.Side(kind); (op.Once(kind) || op.Timed(kind)) && side != 1 && side != 2 {
			t.Errorf("%d is of side %d", kind, side)
		}
	}
}

// P11.4: each result with which one ends is of one side, or of two, but ROK, which is of all.
func TestSidesOfResults(t *testing.T) {
	for _, c := range []struct {
		result int
		sides  []int
	}{
		{api.RNone, nil},
		{api.ROK, []int{1, 2, 3}},
		{api.RFull, []int{1}},
		{api.RDropped, []int{1}},
		{api.REmpty, []int{2}},
		{api.RTimeout, []int{1, 2}},
		{api.RClosed, []int{1, 2}},
		{api.RHalted, []int{1, 2}},
	} {
		var sides []int
		for _, kind := range slices.Concat(does, wrong) {
			if op.Ends(kind, c.result) {
				sides = append(sides, op.Side(kind))
			}
		}
		if slices.Sort(sides); !slices.Equal(slices.Compact(sides), c.sides) {
			t.Errorf("%d is of the sides %v", c.result, sides)
		}
	}
}

// R4: the same is answered of the same, in whatever order it is asked, and however goroutines run.
func TestSameAnswers(t *testing.T) {
	type told struct {
		check, timed, once, ends bool
		side                     int
		may                      api.Errno
	}
	tell := func(kind, result int) told {
		return told{op.Check(kind), op.Timed(kind), op.Once(kind), op.Ends(kind, result), op.Side(kind), op.May(api.Config{Threads: 3, Single: true}, result, kind)}
	}
	asked := map[[2]int]told{}
	for _, kind := range slices.Concat(does, wrong) {
		for result := -1; result < 9; result++ {
			asked[[2]int{kind, result}] = tell(kind, result)
		}
	}
	var group sync.WaitGroup
	for range 8 {
		group.Go(func() {
			for by, was := range asked {
				if is := tell(by[0], by[1]); is != was {
					t.Errorf("%v: %v, and %v", by, is, was)
				}
			}
		})
	}
	group.Wait()
}
