package hist

import (
	"slices"
	"testing"

	"sakia/api"
)

// No script leads to what is not linear, so what is to be told of that is tried of books that are written by hand.

// queue is that of a new fabric of room 2, of a policy.
func queue(policy int) api.Queue {
	return api.Queue{Cap: 2, Policy: policy}
}

// sound is a book of four ops, the last of which has not ended, and told; thread 2 let the oldest one go beside what it did.
func sound() *book {
	return &book{
		ops: []api.Op{
			{Thread: 1, Kind: api.KSend, Val: 5, Begin: 2, End: 9, Result: api.ROK},
			{Thread: 1, Kind: api.KSendUntil, Val: 6, Begin: 10, End: 17, Result: api.ROK},
			{Thread: 2, Kind: api.KTrySend, Val: 7, Begin: 18, End: 28, Result: api.ROK},
			{Thread: 0, Kind: api.KRecv, Begin: 19, End: 34, Result: api.ROK, Got: 6},
			{Thread: 1, Kind: api.KTryRecv, Begin: 35, End: -1},
		},
		log: []api.Entry{
			{Thread: 1, Kind: api.KSend, Val: 5, Result: api.ROK},
			{Thread: 1, Kind: api.KSendUntil, Val: 6, Result: api.ROK},
			{Thread: 2, Kind: api.KEvict, Val: 7, Result: api.ROK, Got: 5},
			{Thread: 2, Kind: api.KTrySend, Val: 7, Result: api.ROK},
			{Thread: 0, Kind: api.KRecv, Result: api.ROK, Got: 6},
			{Thread: 1, Kind: api.KTryRecv, Result: api.ROK, Got: 7},
		},
		at: []int{7, 15, 22, 26, 31, 39},
	}
}

// P21.3: what is linear, and what is not, of books that are changed in one thing each.
func TestLinearByHand(t *testing.T) {
	without := func(n int) func(b *book) {
		return func(b *book) { b.log, b.at = slices.Delete(b.log, n, n+1), slices.Delete(b.at, n, n+1) }
	}
	told := func(at int, e api.Entry) func(b *book) {
		return func(b *book) { b.log, b.at = append(b.log, e), append(b.at, at) }
	}
	drained := api.Entry{Thread: 3, Kind: api.KDrain, Result: api.ROK}
	late := func(id int) api.Entry {
		return api.Entry{Thread: id, Kind: api.KRecvUntil, Result: api.RTimeout}
	}
	for _, c := range []struct {
		name   string
		policy int
		change func(b *book)
		want   bool
	}{
		{"as it is", api.DropOld, func(b *book) {}, true},
		{"nothing", api.Block, func(b *book) { *b = book{} }, true},
		{"nothing ended, nothing told", api.Block, func(b *book) { *b = book{ops: b.ops[4:]} }, true},
		{"of another policy", api.DropNew, func(b *book) {}, false},
		{"of no policy", api.Block, func(b *book) {}, false},

		{"what may not be told, of no op", api.DropOld, func(b *book) { b.ops = nil; b.log[4].Got = 5 }, false},
		{"what may be told, of no op", api.DropOld, func(b *book) { b.ops = nil }, true},
		{"the last one may not be told", api.DropOld, told(50, api.Entry{Thread: 5, Kind: api.KRecv, Result: api.ROK}), false},
		{"one more may be told, of no op", api.DropOld, told(50, drained), true},
		{"the first one may not be told", api.DropOld, func(b *book) { b.ops, b.log[0].Result = nil, api.RFull }, false},

		{"not told of the first one", api.DropOld, func(b *book) { without(0)(b); b.log[1].Got = 6; without(3)(b) }, false},
		{"an op that ended, of nothing told", api.Block, func(b *book) { *b = book{ops: b.ops[:1]} }, false},
		{"one more that ended, of nothing told", api.DropOld, func(b *book) {
			b.ops = append(b.ops, api.Op{Thread: 3, Kind: api.KDrain, Begin: 40, End: 43, Result: api.ROK})
		}, false},
		{"one more that did not end, of nothing told", api.DropOld, func(b *book) {
			b.ops = append(b.ops, api.Op{Thread: 3, Kind: api.KDrain, Begin: 40, End: -1})
		}, true},
		{"nothing told of the one that did not end", api.DropOld, without(5), true},

		{"of another thread", api.DropOld, func(b *book) { b.log[0].Thread = 2 }, false},
		{"of another kind", api.DropOld, func(b *book) { b.log[0].Kind = api.KTrySend }, false},
		{"of another kind that receives", api.DropOld, func(b *book) { b.log[4].Kind = api.KTryRecv }, false},
		{"of another value", api.DropOld, func(b *book) { b.log[1].Val, b.log[4].Got = 60, 60; b.ops[3].Got = 60 }, false},
		{"of another result", api.DropOld, func(b *book) { b.ops[0].Result = api.RDropped }, false},
		{"of no result", api.DropOld, func(b *book) { b.ops[0].Result = api.RNone }, false},
		{"who got another one", api.DropOld, func(b *book) { b.ops[3].Got = 5 }, false},
		{"who sends, and got something", api.DropOld, func(b *book) { b.ops[0].Got = 5 }, false},
		{"who receives has a value", api.DropOld, func(b *book) { b.log[4].Val = 1 }, false},
		{"of another kind, that did not end", api.DropOld, func(b *book) { b.ops[4].Kind, b.ops[4].Val = api.KHalt, 9 }, true},

		{"told when it began", api.DropOld, func(b *book) { b.ops[0].Begin = 7 }, false},
		{"told right behind its begin", api.DropOld, func(b *book) { b.ops[0].Begin = 6 }, true},
		{"told when it ended", api.DropOld, func(b *book) { b.ops[0].End = 7 }, true},
		{"told behind its end", api.DropOld, func(b *book) { b.ops[0].End = 6 }, false},
		{"told when it began, that did not end", api.DropOld, func(b *book) { b.ops[4].Begin = 39 }, true},
		{"told at the first call", api.Block, func(b *book) { *b = book{ops: b.ops[:1], log: b.log[:1], at: []int{0}}; b.ops[0].Begin = 0 }, false},

		{"told twice, behind the end", api.DropOld, func(b *book) { b.log = append(b.log, late(0)); b.at = append(b.at, 35) }, true},
		{"told twice", api.DropOld, func(b *book) {
			b.ops[3].End = 40
			told(40, late(0))(b)
		}, false},
		{"told twice, by one call", api.DropOld, func(b *book) { told(39, late(1))(b) }, false},
		{"told twice of the one that did not end", api.DropOld, told(45, late(1)), false},
		{"told twice of the one that did not end, when it began", api.DropOld, func(b *book) { b.ops[4].Begin = 39; told(45, late(1))(b) }, true},
		{"told by another thread, too", api.DropOld, told(45, late(7)), true},

		{"let another one go, and did not tell", api.DropOld, func(b *book) { without(3)(b); without(4)(b) }, false},
		{"let two go, and did not end", api.DropOld, func(b *book) {
			*b = book{ops: b.ops[2:3], log: slices.Clone(b.log[:5]), at: b.at[:5]}
			b.ops[0].End = -1
			b.log[4] = api.Entry{Thread: 2, Kind: api.KEvict, Val: 7, Result: api.ROK, Got: 6}
		}, true},
	} {
		b := sound()
		c.change(b)
		if is := b.linear(queue(c.policy)); is != c.want {
			t.Errorf("%s: %t", c.name, is)
		}
	}
}

// P21.3: of all that one number makes of a sound book, nothing is linear but what the words of the chapter say.
func TestLinearOfOneNumber(t *testing.T) {
	for n := range sound().ops[:4] {
		for m, change := range []func(o *api.Op){
			func(o *api.Op) { o.Thread += 9 },
			func(o *api.Op) { o.Kind += 9 },
			func(o *api.Op) { o.Val += 9 },
			func(o *api.Op) { o.Begin += 9 },
			func(o *api.Op) { o.End = o.Begin },
			func(o *api.Op) { o.Result += 9 },
			func(o *api.Op) { o.Got += 9 },
		} {
			b := sound()
			change(&b.ops[n])
			// Who receives began long ahead of what it told.
			if is := b.linear(queue(api.DropOld)); is != (n == 3 && m == 3) {
				t.Errorf("op %d, changed in %d: %t", n, m, is)
			}
		}
	}
}
