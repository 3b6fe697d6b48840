package thread_test

import (
	"slices"
	"sync"
	"testing"

	"sakia/api"
	"sakia/thread"
)

const (
	most  = 1<<63 - 1
	least = -1 << 63
	last  = 1 << 40
)

// does are the eight, in order.
var does = []int{api.KSend, api.KTrySend, api.KSendUntil, api.KRecv, api.KTryRecv, api.KRecvUntil, api.KDrain, api.KHalt}

// wrong are kinds that threads do not do: beside the eight, others of api, some that go round to one of the eight, and far outside.
var wrong = []int{least, least + api.KSend, -last, -3, -1, 0, api.KEvict, api.KPick, api.KTick, 12, 1<<8 + 3, 1<<16 + 6, 1<<32 + 3, 1<<32 + 6, last, most}

// far are numbers far outside of all bounds but those of values, and some that go round to 0, 1, or 2.
var far = []int{least, least + 1, -1 << 41, -last - 1, -last, 1<<41 + 1, 1 << 48, 1<<56 + 2, most - 1, most}

// busy is one that runs, and has all that there is.
func busy() api.Thread {
	return api.Thread{Status: api.TRuns, Kind: api.KRecvUntil, Val: 1, Until: 5, Pc: 8, Reg: 2, Seen: 3, Tries: 4, Late: true, Result: api.RTimeout, Got: 6}
}

// full is one at all its upper bounds.
func full() api.Thread {
	return api.Thread{Status: api.TParked, Kind: api.KSendUntil, Val: most, Until: last, Pc: 11, Reg: last, Seen: last, Tries: last, Late: true, Result: api.RHalted, Got: most}
}

// with is a thread that is changed.
func with(t api.Thread, by func(t *api.Thread)) api.Thread {
	by(&t)
	return t
}

// fields are the numbers of a thread, by name.
func fields() map[string]func(t *api.Thread) *int {
	return map[string]func(t *api.Thread) *int{
		"Status": func(t *api.Thread) *int { return &t.Status },
		"Kind":   func(t *api.Thread) *int { return &t.Kind },
		"Val":    func(t *api.Thread) *int { return &t.Val },
		"Until":  func(t *api.Thread) *int { return &t.Until },
		"Pc":     func(t *api.Thread) *int { return &t.Pc },
		"Reg":    func(t *api.Thread) *int { return &t.Reg },
		"Seen":   func(t *api.Thread) *int { return &t.Seen },
		"Tries":  func(t *api.Thread) *int { return &t.Tries },
		"Result": func(t *api.Thread) *int { return &t.Result },
		"Got":    func(t *api.Thread) *int { return &t.Got },
	}
}

// sorts has threads of all sorts: such as may be, and such as may not.
func sorts() []api.Thread {
	l := []api.Thread{{}, busy(), full()}
	for _, t := range l {
		for status := -1; status <= 3; status++ {
			l = append(l, with(t, func(t *api.Thread) { t.Status = status }))
		}
		for _, n := range slices.Concat(far, []int{-2, -1, 0, 1, 2, 3, 8, 9, 11, 12, last, last + 1}) {
			for _, field := range fields() {
				l = append(l, with(t, func(t *api.Thread) { *field(t) = n }))
			}
		}
	}
	return l
}

// P12.1: which threads may be.
func TestCheck(t *testing.T) {
	for name, x := range map[string]api.Thread{
		"nothing at all":                       {},
		"one that did nothing yet, and all":    {Val: 4, Result: api.RHalted, Got: 3},
		"one that did something":               {Kind: api.KSend, Val: 4, Result: api.ROK, Got: 3},
		"one that waited until a time":         {Kind: api.KSendUntil, Until: last, Result: api.RTimeout},
		"one that waited until 0":              {Kind: api.KRecvUntil, Result: api.RTimeout},
		"any values":                           {Kind: api.KHalt, Val: least, Got: most},
		"one that runs":                        {Status: api.TRuns, Kind: api.KSend},
		"one that is parked":                   {Status: api.TParked, Kind: api.KRecv},
		"one that is parked, and tried":        {Status: api.TParked, Kind: api.KRecv, Pc: 2, Tries: 7},
		"one that runs, at all upper bounds":   {Status: api.TRuns, Kind: api.KHalt, Val: most, Pc: 11, Reg: last, Seen: last, Tries: last, Result: api.RHalted, Got: most},
		"one that runs, at all lower bounds":   {Status: api.TRuns, Kind: api.KRecvUntil, Val: least, Seen: -1, Got: least},
		"one that has all":                     busy(),
		"one at all upper bounds, parked":      full(),
		"one that is late, and its time is 0":  {Status: api.TRuns, Kind: api.KSendUntil, Late: true},
		"one that waits, not late, until last": {Status: api.TRuns, Kind: api.KSendUntil, Until: last},
	} {
		if !thread.Check(x) {
			t.Errorf("%s: %+v may be", name, x)
		}
	}
	for _, kind := range does {
		for status := api.TIdle; status <= api.TParked; status++ {
			for result := api.RNone; result <= api.RHalted; result++ {
				if x := (api.Thread{Status: status, Kind: kind, Result: result}); !thread.Check(x) {
					t.Errorf("%+v may be", x)
				}
			}
		}
	}
}

// P12.1: which threads may not be, for one thing each.
func TestCheckWrong(t *testing.T) {
	idle := api.Thread{Kind: api.KRecvUntil, Val: 1, Until: 5, Result: api.RTimeout, Got: 6}
	untimed := api.Thread{Status: api.TRuns, Kind: api.KSend}
	for _, c := range []struct {
		name string
		t    api.Thread
		by   func(t *api.Thread)
	}{
		{"status below", busy(), func(t *api.Thread) { t.Status = -1 }},
		{"status above", busy(), func(t *api.Thread) { t.Status = 3 }},
		{"status below, of nothing", api.Thread{}, func(t *api.Thread) { t.Status = -1 }},
		{"status above, of nothing", api.Thread{}, func(t *api.Thread) { t.Status = 3 }},
		{"idle, and all is left", busy(), func(t *api.Thread) { t.Status = api.TIdle }},
		{"runs, and does nothing", untimed, func(t *api.Thread) { t.Kind = 0 }},
		{"parked, and does nothing", api.Thread{}, func(t *api.Thread) { t.Status = api.TParked }},
		{"runs, and does nothing, with all", busy(), func(t *api.Thread) { t.Kind = 0 }},
		{"kind below, idle", idle, func(t *api.Thread) { t.Kind = -1 }},
		{"kind below", untimed, func(t *api.Thread) { t.Kind = -1 }},
		{"an evict", untimed, func(t *api.Thread) { t.Kind = api.KEvict }},
		{"an evict, idle", api.Thread{}, func(t *api.Thread) { t.Kind = api.KEvict }},
		{"a tick, idle", api.Thread{}, func(t *api.Thread) { t.Kind = api.KTick }},
		{"until below 0", busy(), func(t *api.Thread) { t.Until = -1 }},
		{"until past the last time", busy(), func(t *api.Thread) { t.Until = last + 1 }},
		{"until below 0, idle", idle, func(t *api.Thread) { t.Until = -1 }},
		{"until past the last time, idle", idle, func(t *api.Thread) { t.Until = last + 1 }},
		{"until a time, not timed", untimed, func(t *api.Thread) { t.Until = 1 }},
		{"until the last time, not timed", untimed, func(t *api.Thread) { t.Until = last }},
		{"until below 0, not timed", untimed, func(t *api.Thread) { t.Until = -1 }},
		{"until a time, idle, not timed", idle, func(t *api.Thread) { t.Kind = api.KRecv }},
		{"until a time, of nothing", api.Thread{}, func(t *api.Thread) { t.Until = 1 }},
		{"step below 0", busy(), func(t *api.Thread) { t.Pc = -1 }},
		{"step above 11", busy(), func(t *api.Thread) { t.Pc = 12 }},
		{"register below 0", busy(), func(t *api.Thread) { t.Reg = -1 }},
		{"register above the last position", busy(), func(t *api.Thread) { t.Reg = last + 1 }},
		{"seen below -1", busy(), func(t *api.Thread) { t.Seen = -2 }},
		{"seen above the last position", busy(), func(t *api.Thread) { t.Seen = last + 1 }},
		{"tries below 0", busy(), func(t *api.Thread) { t.Tries = -1 }},
		{"tries above the last position", busy(), func(t *api.Thread) { t.Tries = last + 1 }},
		{"result below", busy(), func(t *api.Thread) { t.Result = -1 }},
		{"result above", busy(), func(t *api.Thread) { t.Result = 8 }},
		{"result below, idle", idle, func(t *api.Thread) { t.Result = -1 }},
		{"result above, of nothing", api.Thread{}, func(t *api.Thread) { t.Result = 8 }},
		{"late, not timed", untimed, func(t *api.Thread) { t.Late = true }},
		{"late, parked, not timed", full(), func(t *api.Thread) { t.Kind, t.Until = api.KRecv, 0 }},
		{"late, idle", idle, func(t *api.Thread) { t.Late = true }},
		{"late, of nothing", api.Thread{}, func(t *api.Thread) { t.Late = true }},
		{"idle, at a step", idle, func(t *api.Thread) { t.Pc = 1 }},
		{"idle, at the last step", idle, func(t *api.Thread) { t.Pc = 11 }},
		{"idle, with a register", idle, func(t *api.Thread) { t.Reg = 1 }},
		{"idle, that saw something", idle, func(t *api.Thread) { t.Seen = 1 }},
		{"idle, that saw -1", idle, func(t *api.Thread) { t.Seen = -1 }},
		{"idle, that tried", idle, func(t *api.Thread) { t.Tries = 1 }},
		{"of nothing, at a step", api.Thread{}, func(t *api.Thread) { t.Pc = 1 }},
		{"of nothing, with a register", api.Thread{}, func(t *api.Thread) { t.Reg = 1 }},
		{"of nothing, that saw something", api.Thread{}, func(t *api.Thread) { t.Seen = 1 }},
		{"of nothing, that tried", api.Thread{}, func(t *api.Thread) { t.Tries = 1 }},
	} {
		if x := with(c.t, c.by); thread.Check(x) {
			t.Errorf("%s: %+v may not be", c.name, x)
		}
	}
}

// P12.1, R1: what is far outside may not be, but for a value, and what one got.
func TestCheckFar(t *testing.T) {
	for _, x := range []api.Thread{{}, busy(), full()} {
		for name, field := range fields() {
			for _, n := range far {
				may := name == "Val" || name == "Got"
				if y := with(x, func(t *api.Thread) { *field(t) = n }); thread.Check(y) != may {
					t.Errorf("%s: %+v: %v", name, y, !may)
				}
			}
		}
	}
	for _, kind := range wrong {
		for status := api.TIdle; status <= api.TParked; status++ {
			if x := (api.Thread{Status: status, Kind: kind}); thread.Check(x) != (x == api.Thread{}) {
				t.Errorf("%+v: %v", x, thread.Check(x))
			}
		}
	}
}

// may is what the chapter says of which threads may be.
func may(t api.Thread) bool {
	eight, timed := false, t.Kind == 3 || t.Kind == 6
	for _, kind := range does {
		eight = eight || t.Kind == kind
	}
	if t.Status != 0 && t.Status != 1 && t.Status != 2 || !eight && t.Kind != 0 || t.Kind == 0 && t.Status != 0 {
		return false
	}
	if t.Until < 0 || t.Until > last || !timed && t.Until != 0 || !timed && t.Late {
		return false
	}
	if t.Pc < 0 || t.Pc > 11 || t.Tries < 0 || t.Tries > last || t.Reg < 0 || t.Reg > last || t.Seen < -1 || t.Seen > last || t.Result < 0 || t.Result > 7 {
		return false
	}
	return t.Status != 0 || t.Pc == 0 && t.Reg == 0 && t.Seen == 0 && t.Tries == 0 && !t.Late
}

// edges goes through threads at all edges that the chapter names.
func edges(see func(t api.Thread)) {
	ends := []int{-1, 0, last, last + 1}
	for _, status := range []int{-1, 0, 1, 2, 3} {
		for _, kind := range []int{-1, 0, 1, 3, 6, 8, 9} {
			for _, until := range ends {
				for _, pc := range []int{-1, 0, 11, 12} {
					for _, reg := range ends {
						for _, seen := range []int{-2, -1, 0, last, last + 1} {
							for _, tries := range ends {
								for _, result := range []int{-1, 0, 7, 8} {
									x := api.Thread{Status: status, Kind: kind, Val: tries, Until: until, Pc: pc, Reg: reg, Seen: seen, Tries: tries, Result: result, Got: reg}
									see(x)
									x.Late = true
									see(x)
								}
							}
						}
					}
				}
			}
		}
	}
}

// P12.1: at all edges, as the words of the chapter say it.
func TestCheckAsTheWordsSay(t *testing.T) {
	all := 0
	edges(func(x api.Thread) {
		if is := may(x); thread.Check(x) != is {
			t.Fatalf("%+v: %v, not %v", x, !is, is)
		} else if is {
			all++
		}
	})
	if all < 500 {
		t.Errorf("only %d may be", all)
	}
}

// runs is what the chapter says of who runs.
func runs(t api.Thread) api.Errno {
	return map[int]api.Errno{0: api.ErrIdle, 2: api.ErrParked}[t.Status]
}

// P12.1: who runs, also of threads that may not be.
func TestRuns(t *testing.T) {
	for _, c := range []struct {
		name   string
		status int
		want   api.Errno
	}{
		{"idle", api.TIdle, api.ErrIdle},
		{"runs", api.TRuns, api.OK},
		{"parked", api.TParked, api.ErrParked},
		{"below", -1, api.OK},
		{"above", 3, api.OK},
		{"far below", least, api.OK},
		{"far above", most, api.OK},
		{"one that goes round to idle", 1 << 32, api.OK},
		{"one that goes round to parked", 1<<32 + 2, api.OK},
	} {
		for _, x := range sorts() {
			x.Status = c.status
			if e := thread.Runs(x); e != c.want {
				t.Errorf("%s: %+v: %d, not %d", c.name, x, e, c.want)
			}
		}
	}
}

// P12.2: what one is about who begins, and the first thing that is against it.
func TestInvoke(t *testing.T) {
	did := api.Thread{Kind: api.KRecvUntil, Val: 3, Until: 8, Result: api.ROK, Got: 3}
	odd := api.Thread{Kind: 99, Val: 3, Until: -8, Pc: 77, Reg: -4, Seen: -9, Tries: most, Late: true, Result: 44, Got: 3}
	for _, c := range []struct {
		name             string
		t                api.Thread
		kind, val, until int
		want             api.Thread
		err              api.Errno
	}{
		{"one sends", api.Thread{}, api.KSend, 7, 0, api.Thread{Status: 1, Kind: 1, Val: 7}, api.OK},
		{"one that did something", did, api.KSend, 7, 0, api.Thread{Status: 1, Kind: 1, Val: 7}, api.OK},
		{"one that may not be", odd, api.KSend, 7, 0, api.Thread{Status: 1, Kind: 1, Val: 7}, api.OK},
		{"the least value", did, api.KTrySend, least, 0, api.Thread{Status: 1, Kind: 2, Val: least}, api.OK},
		{"the greatest value", did, api.KTrySend, most, 0, api.Thread{Status: 1, Kind: 2, Val: most}, api.OK},
		{"a value of who receives", did, api.KTryRecv, 9, 0, api.Thread{Status: 1, Kind: 5, Val: 9}, api.OK},
		{"a value of who halts", did, api.KHalt, -9, 0, api.Thread{Status: 1, Kind: 8, Val: -9}, api.OK},
		{"a time of who is not timed", did, api.KRecv, 7, 9, api.Thread{Status: 1, Kind: 4, Val: 7}, api.OK},
		{"a time below 0 of who is not timed", did, api.KDrain, 7, -1, api.Thread{Status: 1, Kind: 7, Val: 7}, api.OK},
		{"a time past the last one of who is not timed", did, api.KTryRecv, 7, last + 1, api.Thread{Status: 1, Kind: 5, Val: 7}, api.OK},
		{"a time of who is timed", did, api.KSendUntil, 7, 9, api.Thread{Status: 1, Kind: 3, Val: 7, Until: 9}, api.OK},
		{"time 0", did, api.KRecvUntil, 7, 0, api.Thread{Status: 1, Kind: 6, Val: 7}, api.OK},
		{"the last time", did, api.KRecvUntil, 7, last, api.Thread{Status: 1, Kind: 6, Val: 7, Until: last}, api.OK},
		{"the last time, of one that may not be", odd, api.KSendUntil, 7, last, api.Thread{Status: 1, Kind: 3, Val: 7, Until: last}, api.OK},

		{"a time below 0", did, api.KSendUntil, 7, -1, did, api.ErrTime},
		{"a time past the last one", did, api.KRecvUntil, 7, last + 1, did, api.ErrTime},
		{"the least time", did, api.KSendUntil, 7, least, did, api.ErrTime},
		{"the greatest time", did, api.KSendUntil, 7, most, did, api.ErrTime},
		{"a time below 0, of one that may not be", odd, api.KRecvUntil, 7, -1, odd, api.ErrTime},
		{"kind 0", did, 0, 7, 0, did, api.ErrCall},
		{"an evict", did, api.KEvict, 7, 0, did, api.ErrCall},
		{"a tick", api.Thread{}, api.KTick, 7, 0, api.Thread{}, api.ErrCall},
		{"kind below 0, and a wrong time", did, -1, 7, -1, did, api.ErrCall},
		{"a kind that goes round, and a wrong time", odd, 1<<32 + 3, 7, last + 1, odd, api.ErrCall},

		{"one that runs", busy(), api.KSend, 7, 0, busy(), api.ErrBusy},
		{"one that is parked", full(), api.KSend, 7, 0, full(), api.ErrBusy},
		{"one that runs, and kind 0", busy(), 0, 7, 0, busy(), api.ErrBusy},
		{"one that is parked, and a wrong time", full(), api.KSendUntil, 7, -1, full(), api.ErrBusy},
		{"one that is parked, and all is wrong", full(), api.KEvict, 7, most, full(), api.ErrBusy},
		{"a status below", api.Thread{Status: -1}, api.KSend, 7, 0, api.Thread{Status: -1}, api.ErrBusy},
		{"a status above", api.Thread{Status: 3}, api.KSend, 7, 0, api.Thread{Status: 3}, api.ErrBusy},
		{"a status that goes round to idle", api.Thread{Status: 1 << 32}, api.KSend, 7, 0, api.Thread{Status: 1 << 32}, api.ErrBusy},
	} {
		if x, err := thread.Invoke(c.t, c.kind, c.val, c.until); x != c.want || err != c.err {
			t.Errorf("%s: %+v, %d, not %+v, %d", c.name, x, err, c.want, c.err)
		}
	}
}

// invoke is what the chapter says of who begins.
func invoke(t api.Thread, kind, val, until int) (api.Thread, api.Errno) {
	eight, timed := 1 <= kind && kind <= 8, kind == 3 || kind == 6
	if t.Status != 0 {
		return t, api.ErrBusy
	}
	if !eight {
		return t, api.ErrCall
	}
	if timed && (until < 0 || until > last) {
		return t, api.ErrTime
	}
	x := api.Thread{Kind: kind, Val: val}
	if x.Status = 1; timed {
		x.Until = until
	}
	return x, api.OK
}

// P12.2: of threads of all sorts, as the words of the chapter say it.
func TestInvokeAsTheWordsSay(t *testing.T) {
	for _, x := range sorts() {
		for _, kind := range slices.Concat(wrong, does) {
			for _, until := range []int{least, -1, 0, 1, 5, last - 1, last, last + 1, 1<<63 - last, most} {
				y, err := thread.Invoke(x, kind, 7, until)
				if z, e := invoke(x, kind, 7, until); y != z || err != e {
					t.Fatalf("Invoke(%+v, %d, 7, %d) = %+v, %d, not %+v, %d", x, kind, until, y, err, z, e)
				}
			}
		}
	}
}

// P12.3: who waits, and who can not.
func TestPark(t *testing.T) {
	parked := api.Thread{Status: api.TParked, Kind: api.KRecvUntil, Val: 1, Until: 5, Pc: 2, Reg: 2, Seen: 3, Late: true, Result: api.RTimeout, Got: 6}
	for _, c := range []struct {
		name string
		t    api.Thread
		pc   int
		want api.Thread
		err  api.Errno
	}{
		{"one that runs", busy(), 2, parked, api.OK},
		{"one that begins", api.Thread{Status: 1, Kind: 1, Val: 7}, 2, api.Thread{Status: 2, Kind: 1, Val: 7, Pc: 2}, api.OK},
		{"at step 0", busy(), 0, with(parked, func(t *api.Thread) { t.Pc = 0 }), api.OK},
		{"at the last step", busy(), 11, with(parked, func(t *api.Thread) { t.Pc = 11 }), api.OK},
		{"where it is", busy(), 8, with(parked, func(t *api.Thread) { t.Pc = 8 }), api.OK},
		{"at no step", busy(), 12, with(parked, func(t *api.Thread) { t.Pc = 12 }), api.OK},
		{"far below 0", busy(), least, with(parked, func(t *api.Thread) { t.Pc = least }), api.OK},
		{"nothing", api.Thread{}, 2, api.Thread{}, api.ErrIdle},
		{"one that did something", api.Thread{Kind: 4, Result: 1, Got: 3}, 2, api.Thread{Kind: 4, Result: 1, Got: 3}, api.ErrIdle},
		{"one that is idle, and tried", api.Thread{Pc: 4, Tries: 5}, 2, api.Thread{Pc: 4, Tries: 5}, api.ErrIdle},
		{"one that is parked", parked, 5, parked, api.ErrParked},
		{"one that is parked, and tried", full(), 5, full(), api.ErrParked},
		{"a status below", api.Thread{Status: -1, Tries: 3}, 5, api.Thread{Status: 2, Pc: 5}, api.OK},
		{"a status above", api.Thread{Status: 3, Tries: 3, Reg: -7}, 5, api.Thread{Status: 2, Pc: 5, Reg: -7}, api.OK},
	} {
		if x, err := thread.Park(c.t, c.pc); x != c.want || err != c.err {
			t.Errorf("%s: %+v, %d, not %+v, %d", c.name, x, err, c.want, c.err)
		}
	}
}

// P12.3: who is woken, and who stays.
func TestWake(t *testing.T) {
	for _, c := range []struct {
		name    string
		t, want api.Thread
	}{
		{"one that is parked", full(), with(full(), func(t *api.Thread) { t.Status = 1 })},
		{"one that is parked, and does nothing", api.Thread{Status: 2, Pc: -4}, api.Thread{Status: 1, Pc: -4}},
		{"one that runs", busy(), busy()},
		{"nothing", api.Thread{}, api.Thread{}},
		{"one that did something", api.Thread{Kind: 4, Result: 1, Got: 3}, api.Thread{Kind: 4, Result: 1, Got: 3}},
		{"a status above", api.Thread{Status: 3, Kind: 4}, api.Thread{Status: 3, Kind: 4}},
		{"a status below", api.Thread{Status: -1, Kind: 4}, api.Thread{Status: -1, Kind: 4}},
		{"a status that goes round to parked", api.Thread{Status: 1<<32 + 2}, api.Thread{Status: 1<<32 + 2}},
	} {
		if x := thread.Wake(c.t); x != c.want {
			t.Errorf("%s: %+v, not %+v", c.name, x, c.want)
		}
	}
}

// P12.3: who ends, and who can not.
func TestDone(t *testing.T) {
	for _, c := range []struct {
		name    string
		t, want api.Thread
		err     api.Errno
	}{
		{"one that has all", busy(), api.Thread{Kind: 6, Val: 1, Until: 5, Result: 5, Got: 6}, api.OK},
		{"at all upper bounds", thread.Wake(full()), api.Thread{Kind: 3, Val: most, Until: last, Result: 7, Got: most}, api.OK},
		{"one that begins", api.Thread{Status: 1, Kind: 1, Val: 7}, api.Thread{Kind: 1, Val: 7}, api.OK},
		{"one that may not be", api.Thread{Status: 1, Kind: 99, Val: -1, Until: -2, Pc: -3, Reg: -4, Seen: -5, Tries: -6, Late: true, Result: -7, Got: -8}, api.Thread{Kind: 99, Val: -1, Until: -2, Result: -7, Got: -8}, api.OK},
		{"a status above", api.Thread{Status: 3, Kind: 1, Seen: 4}, api.Thread{Kind: 1}, api.OK},
		{"a status below", api.Thread{Status: -1, Late: true}, api.Thread{}, api.OK},
		{"nothing", api.Thread{}, api.Thread{}, api.ErrIdle},
		{"one that did something", api.Thread{Kind: 4, Result: 1, Got: 3}, api.Thread{Kind: 4, Result: 1, Got: 3}, api.ErrIdle},
		{"one that is idle, and may not be", api.Thread{Pc: 4, Late: true}, api.Thread{Pc: 4, Late: true}, api.ErrIdle},
		{"one that is parked", full(), full(), api.ErrParked},
	} {
		if x, err := thread.Done(c.t); x != c.want || err != c.err {
			t.Errorf("%s: %+v, %d, not %+v, %d", c.name, x, err, c.want, c.err)
		}
	}
}

// P12.3: of threads of all sorts, as the words of the chapter say it.
func TestParkWakeDoneAsTheWordsSay(t *testing.T) {
	for _, x := range sorts() {
		for _, pc := range slices.Concat(far, []int{-1, 0, 1, 5, 11, 12}) {
			want := x
			if runs(x) == api.OK {
				want.Status, want.Pc, want.Tries = 2, pc, 0
			}
			if y, err := thread.Park(x, pc); y != want || err != runs(x) {
				t.Fatalf("Park(%+v, %d) = %+v, %d, not %+v, %d", x, pc, y, err, want, runs(x))
			}
		}
		want := x
		if x.Status == 2 {
			want.Status = 1
		}
		if y := thread.Wake(x); y != want {
			t.Fatalf("Wake(%+v) = %+v, not %+v", x, y, want)
		}
		want = x
		if runs(x) == api.OK {
			want.Status, want.Pc, want.Reg, want.Seen, want.Tries, want.Late = 0, 0, 0, 0, 0, false
		}
		if y, err := thread.Done(x); y != want || err != runs(x) {
			t.Fatalf("Done(%+v) = %+v, %d, not %+v, %d", x, y, err, want, runs(x))
		}
	}
}

// P12.4: whose time has come.
func TestLate(t *testing.T) {
	for _, c := range []struct {
		name string
		t    api.Thread
		now  int
		want bool
	}{
		{"at its time", api.Thread{Status: 1, Kind: 3, Until: 5}, 5, true},
		{"ahead of its time", api.Thread{Status: 1, Kind: 3, Until: 5}, 4, false},
		{"behind its time", api.Thread{Status: 1, Kind: 3, Until: 5}, 6, true},
		{"who receives, at its time", api.Thread{Status: 1, Kind: 6, Until: 5}, 5, true},
		{"who receives, ahead of its time", api.Thread{Status: 1, Kind: 6, Until: 5}, 4, false},
		{"parked, at its time", api.Thread{Status: 2, Kind: 3, Until: 5}, 5, true},
		{"parked, ahead of its time", api.Thread{Status: 2, Kind: 6, Until: 5}, 4, false},
		{"until 0, at 0", api.Thread{Status: 2, Kind: 6}, 0, true},
		{"until 0, below", api.Thread{Status: 2, Kind: 6}, -1, false},
		{"until the last time, at it", full(), last, true},
		{"until the last time, ahead of it", full(), last - 1, false},
		{"late already, ahead of its time", busy(), 4, false},
		{"late already, at its time", busy(), 5, true},
		{"idle, behind its time", api.Thread{Kind: 6, Until: 5}, 6, false},
		{"idle, at its time", api.Thread{Kind: 3, Until: 5}, 5, false},
		{"idle, and late", api.Thread{Kind: 3, Until: 5, Late: true}, 6, false},
		{"nothing", api.Thread{}, most, false},
		{"not timed", api.Thread{Status: 1, Kind: 1}, 6, false},
		{"not timed, with a time", api.Thread{Status: 2, Kind: 4, Until: 5, Late: true}, 6, false},
		{"who tries", api.Thread{Status: 1, Kind: 2}, 6, false},
		{"who tries to receive", api.Thread{Status: 1, Kind: 5}, 6, false},
		{"who drains", api.Thread{Status: 1, Kind: 7}, 6, false},
		{"who halts", api.Thread{Status: 1, Kind: 8}, 6, false},
		{"a kind that goes round", api.Thread{Status: 1, Kind: 1<<32 + 3}, 6, false},
		{"the greatest now", api.Thread{Status: 1, Kind: 3, Until: 5}, most, true},
		{"the least now", api.Thread{Status: 1, Kind: 3, Until: 5}, least, false},
		{"the least time, and the greatest now", api.Thread{Status: 1, Kind: 3, Until: least}, most, true},
		{"the greatest time, and the least now", api.Thread{Status: 1, Kind: 3, Until: most}, least, false},
		{"the least time, at it", api.Thread{Status: 1, Kind: 3, Until: least}, least, true},
		{"a status above", api.Thread{Status: 3, Kind: 3, Until: 5}, 5, true},
		{"a status below", api.Thread{Status: -1, Kind: 3, Until: 5}, 5, true},
	} {
		if is := thread.Late(c.t, c.now); is != c.want {
			t.Errorf("%s: %+v: %v", c.name, c.t, is)
		}
	}
}

// P12.4: of threads of all sorts, as the words of the chapter say it.
func TestLateAsTheWordsSay(t *testing.T) {
	for _, x := range sorts() {
		for _, now := range slices.Concat(far, []int{-2, -1, 0, 1, 4, 5, 6, last - 1, last, last + 1}) {
			want := (x.Kind == 3 || x.Kind == 6) && x.Status != 0 && x.Until <= now
			if is := thread.Late(x, now); is != want {
				t.Fatalf("Late(%+v, %d) = %v", x, now, is)
			}
		}
	}
}

// P12.5: what may be stays so, whatever is done to it, where the step that is said is one.
func TestStays(t *testing.T) {
	stay := func(from, x api.Thread) {
		t.Helper()
		if !thread.Check(x) {
			t.Fatalf("%+v, of %+v, may not be", x, from)
		}
	}
	edges(func(x api.Thread) {
		if !thread.Check(x) {
			return
		}
		for _, kind := range []int{-1, 0, 1, 2, 3, 4, 5, 6, 7, 8, 9} {
			for _, until := range []int{-1, 0, last, last + 1} {
				y, _ := thread.Invoke(x, kind, least, until)
				stay(x, y)
			}
		}
		for pc := 0; pc <= 11; pc++ {
			y, _ := thread.Park(x, pc)
			stay(x, y)
		}
		stay(x, thread.Wake(x))
		y, _ := thread.Done(x)
		stay(x, y)
	})
}

// P12.5, P12.3: who was parked, and is woken, runs at the step that was said, and is else as it was.
func TestRunsAtTheStep(t *testing.T) {
	for _, x := range sorts() {
		if thread.Runs(x) != api.OK {
			continue
		}
		for _, pc := range []int{least, -1, 0, 1, 2, 5, 11, 12, most} {
			y, err := thread.Park(x, pc)
			if err != api.OK || thread.Runs(y) != api.ErrParked {
				t.Fatalf("Park(%+v, %d) = %+v, %d", x, pc, y, err)
			}
			want := with(x, func(t *api.Thread) { t.Status, t.Pc, t.Tries = 1, pc, 0 })
			if z := thread.Wake(y); thread.Runs(z) != api.OK || z != want || thread.Wake(z) != want {
				t.Fatalf("woken, it is %+v, not %+v", z, want)
			}
		}
	}
}

// P12.2, P12.3, P12.5: the chapter's example, and the end of it.
func TestFromBeginToEnd(t *testing.T) {
	for _, kind := range does {
		x, err := thread.Invoke(api.Thread{}, kind, 7, 9)
		if err != api.OK || thread.Runs(x) != api.OK {
			t.Errorf("%d: %+v, %d", kind, x, err)
		}
		x, err = thread.Park(x, 2)
		if err != api.OK || thread.Runs(x) != api.ErrParked {
			t.Errorf("%d: parked, %+v, %d", kind, x, err)
		}
		if _, err = thread.Invoke(x, kind, 7, 9); err != api.ErrBusy {
			t.Errorf("%d: parked, it is told %d", kind, err)
		}
		if x = thread.Wake(x); x.Status != api.TRuns || x.Pc != 2 {
			t.Errorf("%d: woken, %+v", kind, x)
		}
		x, err = thread.Done(x)
		if err != api.OK || x.Status != api.TIdle || x.Kind != kind || x.Val != 7 || !thread.Check(x) {
			t.Errorf("%d: done, %+v, %d", kind, x, err)
		}
		if y, err := thread.Done(x); err != api.ErrIdle || y != x {
			t.Errorf("%d: done twice, %+v, %d", kind, y, err)
		}
	}
}

// R3, R4: the same is answered of the same, in whatever order it is asked, and however goroutines run.
func TestSameAnswers(t *testing.T) {
	type told struct {
		check, late             bool
		begun, parks, wakes, is api.Thread
		began, parked, ended    api.Errno
		runs                    api.Errno
	}
	tell := func(x api.Thread) told {
		a := told{check: thread.Check(x), late: thread.Late(x, 5), wakes: thread.Wake(x), runs: thread.Runs(x)}
		a.begun, a.began = thread.Invoke(x, api.KSendUntil, 7, 9)
		a.parks, a.parked = thread.Park(x, 5)
		a.is, a.ended = thread.Done(x)
		return a
	}
	asked := map[api.Thread]told{}
	for _, x := range sorts() {
		asked[x] = tell(x)
	}
	var group sync.WaitGroup
	for range 8 {
		group.Go(func() {
			for x, was := range asked {
				if is := tell(x); is != was {
					t.Errorf("%+v: %+v, and %+v", x, is, was)
				}
			}
		})
	}
	group.Wait()
}
