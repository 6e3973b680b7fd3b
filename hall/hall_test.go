package hall_test

import (
	"fmt"
	"math"
	"slices"
	"testing"

	"stopgate/api"
	"stopgate/hall"
	"stopgate/ref"
)

func send(handle, value int) api.Case {
	return api.Case{Dir: api.Send, Handle: handle, Value: value}
}

func recv(handle int) api.Case { return api.Case{Dir: api.Recv, Handle: handle} }

// sel is a select that may wait, try one that may not.
func sel(cases ...api.Case) api.Request { return api.Request{Kind: api.RSelect, Cases: cases} }

func try(cases ...api.Case) api.Request {
	return api.Request{Kind: api.RSelect, Cases: cases, Default: true}
}

// on is a call of one channel, or of a thread.
func on(kind, arg int) api.Request { return api.Request{Kind: kind, Arg: arg} }

func cancel(thread, seq int) api.Request {
	return api.Request{Kind: api.RCancel, Arg: thread, Value: seq}
}

func wait(ticket, seq int, cases ...api.Case) api.Wait {
	return api.Wait{On: true, Ticket: ticket, Seq: seq, Cases: cases}
}

func open(gen, capacity int, values ...int) api.Chan {
	return api.Chan{Gen: gen, Cap: capacity, Used: true, Buf: values}
}

func closed(gen, capacity int, values ...int) api.Chan {
	return api.Chan{Gen: gen, Cap: capacity, Used: true, Closed: true, Buf: values}
}

func result(seq int, code api.Errno, which, value int) api.Result {
	return api.Result{Seq: seq, Code: code, Case: which, Value: value}
}

// shape is two threads more than channels: one that makes what it can.
func shape(chans, capacity, gens int, start ...int) api.Config {
	return api.Config{Kind: api.KHall, Threads: chans + 2, Chans: chans, Cap: capacity, Gens: gens, Start: start}
}

// text tells all fields of things, nil lists as empty ones: what has the same text is the same.
func text(l ...any) string { return fmt.Sprintf("%+v", l) }

func TestStart_P12_1(t *testing.T) {
	most := make([]int, 20)
	eight := slices.Repeat([]api.Chan{open(1, 0)}, 8)
	for _, c := range []struct {
		what    string
		c       api.Config
		chans   []api.Chan
		threads int
	}{
		{"zero", api.Config{}, nil, 0},
		{"below 0", api.Config{Threads: -1, Chans: -1, Start: []int{1}}, nil, 0},
		{"far below 0", api.Config{Threads: math.MinInt, Chans: math.MinInt}, nil, 0},
		{"at the limits", api.Config{Threads: 64, Chans: 8, Start: most[:8]}, eight, 64},
		{"beyond the limits", api.Config{Threads: 65, Chans: 9, Start: most[:9]}, eight, 64},
		{"far beyond", api.Config{Threads: math.MaxInt, Chans: math.MaxInt, Start: most}, eight, 64},
		{"no channels", shape(2, 3, 9), make([]api.Chan, 2), 4},
		{"some channels", shape(3, 3, 9, 2, 0), []api.Chan{open(1, 2), open(1, 0), {}}, 5},
		{"all channels", shape(2, 3, 9, 2, 3), []api.Chan{open(1, 2), open(1, 3)}, 4},
		{"more than there are places", shape(1, 3, 9, 2, 3, 4), []api.Chan{open(1, 2)}, 3},
		{"capacities are not judged", shape(3, 0, 0, -1, 99, math.MinInt), []api.Chan{open(1, -1), open(1, 99), open(1, math.MinInt)}, 5},
		{"of another kind", api.Config{Kind: api.KFifo, Threads: 1, Chans: 1, Start: []int{1}}, []api.Chan{open(1, 1)}, 1},
	} {
		want := api.Hall{Chans: c.chans, Waits: make([]api.Wait, c.threads), Done: make([]api.Result, c.threads)}
		if got := hall.Start(c.c); text(got) != text(want) {
			t.Errorf("%s: %+v", c.what, got)
		}
	}
}

// full is a hall in which each field has something.
func full() api.Hall {
	return api.Hall{
		Ticket: 7,
		Chans:  []api.Chan{open(1, 2, 5, 6), {Gen: 3}, closed(2, 1, 9)},
		Waits:  []api.Wait{{}, wait(6, 2, send(8, 4), recv(18)), {Seq: 9, Cases: []api.Case{recv(8)}}},
		Done:   []api.Result{result(1, api.OK, 1, 4), result(2, api.EPARK, 0, 0), result(3, api.EARG, 0, 0)},
	}
}

func TestCopy_P12_1(t *testing.T) {
	for _, h := range []api.Hall{{}, full(), hall.Start(shape(2, 3, 9, 1))} {
		if got := hall.Copy(h); text(got) != text(h) {
			t.Errorf("Copy of %+v: %+v", h, got)
		}
	}
}

func TestSame_P12_1(t *testing.T) {
	if !hall.Same(full(), full()) || !hall.Same(api.Hall{}, api.Hall{}) {
		t.Error("not the same")
	}
	if !hall.Same(api.Hall{Chans: []api.Chan{{Buf: []int{}}}, Waits: []api.Wait{}, Done: []api.Result{}}, api.Hall{Chans: make([]api.Chan, 1)}) {
		t.Error("empty lists, and nil ones")
	}
	for what, change := range map[string]func(h *api.Hall){
		"ticket":        func(h *api.Hall) { h.Ticket++ },
		"gen":           func(h *api.Hall) { h.Chans[0].Gen++ },
		"cap":           func(h *api.Hall) { h.Chans[0].Cap++ },
		"used":          func(h *api.Hall) { h.Chans[1].Used = true },
		"closed":        func(h *api.Hall) { h.Chans[1].Closed = true },
		"a value":       func(h *api.Hall) { h.Chans[2].Buf[0]++ },
		"values":        func(h *api.Hall) { slices.Reverse(h.Chans[0].Buf) },
		"a place less":  func(h *api.Hall) { h.Chans = h.Chans[:2] },
		"a place more":  func(h *api.Hall) { h.Chans = append(h.Chans, api.Chan{}) },
		"on":            func(h *api.Hall) { h.Waits[1].On = false },
		"wait's ticket": func(h *api.Hall) { h.Waits[1].Ticket++ },
		"wait's seq":    func(h *api.Hall) { h.Waits[1].Seq++ },
		"wait's case":   func(h *api.Hall) { h.Waits[1].Cases[0].Value++ },
		"what is left":  func(h *api.Hall) { h.Waits[2].Cases = nil },
		"a wait less":   func(h *api.Hall) { h.Waits = h.Waits[:2] },
		"a wait more":   func(h *api.Hall) { h.Waits = append(h.Waits, api.Wait{}) },
		"done's seq":    func(h *api.Hall) { h.Done[0].Seq++ },
		"done's case":   func(h *api.Hall) { h.Done[0].Case++ },
		"done's code":   func(h *api.Hall) { h.Done[1].Code++ },
		"done's value":  func(h *api.Hall) { h.Done[2].Value++ },
		"a done less":   func(h *api.Hall) { h.Done = h.Done[:2] },
		"a done more":   func(h *api.Hall) { h.Done = append(h.Done, api.Result{}) },
	} {
		h := full()
		change(&h)
		if hall.Same(full(), h) || hall.Same(h, full()) {
			t.Errorf("%s: the same", what)
		}
	}
}

func TestFind_P12_1(t *testing.T) {
	h := full()
	h.Chans = append(h.Chans, open(4095, 1), open(0, 1), open(4096, 1), open(-1, 1), open(1, 1), open(1, 1), open(1, 1))
	for handle, want := range map[int]int{
		8: 0, 18: 2, 8*4095 + 3: 3, 15: 7,
		0: -1, 7: -1, 9: -1, 16: -1, 24: -1, 25: -1, 10: -1, 26: -1, 4: -1, 8*4096 + 5: -1, -8: -1, -2: -1, 14: -1, 8 * 4095: -1,
		math.MaxInt: -1, math.MinInt: -1, 1<<32 + 8: -1,
	} {
		place, ok := hall.Find(h, handle)
		if ok != (want >= 0) || place != max(want, 0) {
			t.Errorf("Find(%d) = %d, %v", handle, place, ok)
		}
	}
	for handle := range 80 {
		if place, ok := hall.Find(api.Hall{}, handle); ok || place != 0 {
			t.Errorf("Find(%d) of nothing: %d, %v", handle, place, ok)
		}
	}
}

// A test's calls change a hall of three threads, of which the middle one waits.
type change struct {
	what      string
	c         api.Config
	chans     []api.Chan
	wait      api.Wait
	thread    int
	q         api.Request
	wantChans []api.Chan
	wantWait  api.Wait
	told      bool // thread 1 is told what wantTold says
	wantTold  api.Result
	want      api.Result
}

// run does each call by its number 5, and tells what is not as it must be.
func run(t *testing.T, l []change) {
	t.Helper()
	for _, c := range l {
		before := []api.Result{result(1, api.OK, 1, 1), result(c.wait.Seq, api.EPARK, 0, 0), result(2, api.ELATE, 0, 0)}
		h := api.Hall{Ticket: 7, Chans: c.chans, Waits: []api.Wait{{}, c.wait, {}}, Done: before}
		want := api.Hall{Ticket: 7, Chans: c.wantChans, Waits: []api.Wait{{}, c.wantWait, {}}, Done: slices.Clone(before)}
		if c.told {
			want.Done[1] = c.wantTold
		}
		if c.thread >= 0 && c.thread < 3 {
			c.want.Seq = 5
			want.Done[c.thread] = c.want
		}
		if c.want.Code == api.EPARK {
			want.Ticket = 8
			want.Waits[c.thread] = wait(7, 5, c.q.Cases...)
		}
		if got := hall.Apply(c.c, h, c.thread, 5, c.q); text(got) != text(want) {
			t.Errorf("%s: \n%+v, not\n%+v", c.what, got, want)
		}
	}
}

// same is a call behind which all is as it was, but what its thread is told.
func same(what string, chans []api.Chan, w api.Wait, thread int, q api.Request, want api.Result) change {
	return change{what: what, c: shape(3, 3, 9), chans: chans, wait: w, thread: thread, q: q, wantChans: chans, wantWait: w, want: want}
}

func TestMake_P12_2(t *testing.T) {
	made := func(what string, c api.Config, arg int, before, behind []api.Chan, want api.Result) change {
		return change{what: what, c: c, chans: before, q: on(api.RMake, arg), wantChans: behind, want: want}
	}
	wrong := func(what string, c api.Config, arg int, code api.Errno, l ...api.Chan) change {
		return made(what, c, arg, l, l, result(0, code, 0, 0))
	}
	gone := func(gen int) api.Chan { return api.Chan{Gen: gen} }
	run(t, []change{
		made("the first", shape(2, 3, 9), 2, make([]api.Chan, 2), []api.Chan{open(1, 2), {}}, result(0, api.OK, 0, 8)),
		made("of capacity 0", shape(2, 3, 9), 0, make([]api.Chan, 1), []api.Chan{open(1, 0)}, result(0, api.OK, 0, 8)),
		made("of the shape's capacity", shape(2, 3, 9), 3, make([]api.Chan, 1), []api.Chan{open(1, 3)}, result(0, api.OK, 0, 8)),
		made("the next place", shape(2, 3, 9), 1, []api.Chan{open(1, 2, 7), {}, {}}, []api.Chan{open(1, 2, 7), open(1, 1), {}}, result(0, api.OK, 0, 9)),
		made("the next generation", shape(2, 3, 9), 1, []api.Chan{open(5, 2), gone(4), {}}, []api.Chan{open(5, 2), open(5, 1), {}}, result(0, api.OK, 0, 41)),
		made("the last generation", shape(2, 3, 9), 1, []api.Chan{gone(8)}, []api.Chan{open(9, 1)}, result(0, api.OK, 0, 72)),
		made("a place that has generations left", shape(2, 3, 9), 1, []api.Chan{gone(9), gone(10), gone(8)}, []api.Chan{gone(9), gone(10), open(9, 1)}, result(0, api.OK, 0, 74)),
		made("what was left in its place", shape(2, 3, 9), 1, []api.Chan{{Gen: 1, Cap: 3, Closed: true, Buf: []int{4}}}, []api.Chan{open(2, 1)}, result(0, api.OK, 0, 16)),
		made("the greatest generation", shape(2, 3, math.MaxInt), 1, []api.Chan{gone(4094)}, []api.Chan{open(4095, 1)}, result(0, api.OK, 0, 8*4095)),
		made("the shape's Chans do not say how many places there are", shape(0, 3, 9), 1, make([]api.Chan, 8), append([]api.Chan{open(1, 1)}, make([]api.Chan, 7)...), result(0, api.OK, 0, 8)),
		made("the last place", shape(8, 3, 9), 1, append(slices.Repeat([]api.Chan{closed(2, 1)}, 7), api.Chan{}), append(slices.Repeat([]api.Chan{closed(2, 1)}, 7), open(1, 1)), result(0, api.OK, 0, 15)),
		wrong("a capacity below 0", shape(1, 3, 9), -1, api.EARG, api.Chan{}),
		wrong("a great capacity", shape(1, 3, 9), 4, api.EARG, api.Chan{}),
		wrong("far below 0", shape(1, 3, 9), math.MinInt, api.EARG, api.Chan{}),
		wrong("far too great", shape(1, 3, 9), math.MaxInt, api.EARG, api.Chan{}),
		wrong("a shape without a capacity", shape(1, -1, 9), 0, api.EARG, api.Chan{}),
		wrong("a capacity ahead of room", shape(1, 3, 9), 4, api.EARG, open(1, 1)),
		wrong("no place", shape(1, 3, 9), 1, api.ENOMEM, open(1, 1), closed(9, 1)),
		wrong("no places at all", shape(1, 3, 9), 1, api.ENOMEM),
		wrong("no generation", shape(1, 3, 9), 1, api.ETAG, gone(9)),
		wrong("one of a place alone", shape(1, 3, 9), 1, api.ETAG, gone(9), open(1, 1)),
		wrong("one of another place", shape(1, 3, 9), 1, api.ETAG, open(1, 1), gone(10)),
		wrong("no generations in the shape", shape(1, 3, 0), 1, api.ETAG, api.Chan{}),
		wrong("the greatest generation was there", shape(1, 3, math.MaxInt), 1, api.ETAG, gone(4095), gone(math.MaxInt)),
	})
}

func TestFree_P12_2(t *testing.T) {
	l := []api.Chan{open(1, 2), closed(3, 1), closed(2, 1, 4), {Gen: 5}}
	freed := change{what: "idle", c: shape(3, 3, 9), chans: l, q: on(api.RFree, 25), wantChans: []api.Chan{l[0], {Gen: 3}, l[2], l[3]}, want: result(0, api.OK, 0, 0)}
	busy := wait(2, 4, recv(8), recv(25))
	elsewhere := freed
	elsewhere.what, elsewhere.wait, elsewhere.wantWait = "somebody waits elsewhere", wait(2, 4, recv(8)), wait(2, 4, recv(8))
	run(t, []change{
		freed,
		elsewhere,
		same("open", l, api.Wait{}, 0, on(api.RFree, 8), result(0, api.EBUSY, 0, 0)),
		same("a value", l, api.Wait{}, 0, on(api.RFree, 18), result(0, api.EBUSY, 0, 0)),
		same("somebody waits", l, busy, 0, on(api.RFree, 25), result(0, api.EBUSY, 0, 0)),
		same("another generation", l, api.Wait{}, 0, on(api.RFree, 17), result(0, api.EHANDLE, 0, 0)),
		same("gone", l, api.Wait{}, 0, on(api.RFree, 43), result(0, api.EHANDLE, 0, 0)),
		same("no place", l, api.Wait{}, 0, on(api.RFree, 12), result(0, api.EHANDLE, 0, 0)),
		same("no handle", l, api.Wait{}, 0, on(api.RFree, 0), result(0, api.EHANDLE, 0, 0)),
		same("below 0", l, api.Wait{}, 0, on(api.RFree, math.MinInt), result(0, api.EHANDLE, 0, 0)),
	})
}

func TestClose_P12_2(t *testing.T) {
	l := []api.Chan{open(1, 2, 5), closed(3, 1), {Gen: 5}}
	shut := []api.Chan{closed(1, 2, 5), l[1], l[2]}
	w := wait(2, 4, send(25, 1), send(8, 2), recv(8))
	was := result(4, api.ECLOSED, 1, 0)
	run(t, []change{
		{what: "nobody waits", chans: l, thread: 2, q: on(api.RClose, 8), wantChans: shut, want: result(0, api.OK, 0, 0)},
		{what: "somebody waits", chans: l, wait: w, thread: 2, q: on(api.RClose, 8), wantChans: shut, told: true, wantTold: was, want: result(0, api.OK, 0, 0)},
		{what: "one's own call waits", chans: l, wait: w, thread: 1, q: on(api.RClose, 8), wantChans: shut, want: result(0, api.OK, 0, 0)},
		{what: "no such thread", chans: l, wait: w, thread: 3, q: on(api.RClose, 8), wantChans: shut, told: true, wantTold: was, want: result(0, api.OK, 0, 0)},
		same("closed", l, w, 0, on(api.RClose, 25), result(0, api.ECLOSED, 0, 0)),
		same("another generation", l, w, 0, on(api.RClose, 16), result(0, api.EHANDLE, 0, 0)),
		same("gone", l, w, 0, on(api.RClose, 42), result(0, api.EHANDLE, 0, 0)),
		same("no handle", l, w, 0, on(api.RClose, -8), result(0, api.EHANDLE, 0, 0)),
	})
}

func TestLenCap_P12_2(t *testing.T) {
	l := []api.Chan{open(1, 2, 5), closed(3, 7, 1, 2, 3), {Gen: 5, Cap: 2, Buf: []int{1}}, open(2, -1)}
	w := wait(2, 4, recv(8))
	run(t, []change{
		same("len", l, w, 0, on(api.RLen, 8), result(0, api.OK, 0, 1)),
		same("cap", l, w, 0, on(api.RCap, 8), result(0, api.OK, 0, 2)),
		same("len of a closed one", l, w, 0, on(api.RLen, 25), result(0, api.OK, 0, 3)),
		same("cap of a closed one", l, w, 0, on(api.RCap, 25), result(0, api.OK, 0, 7)),
		same("len of nothing", l, w, 0, on(api.RLen, 19), result(0, api.OK, 0, 0)),
		same("cap below 0", l, w, 0, on(api.RCap, 19), result(0, api.OK, 0, -1)),
		same("len of none", l, w, 0, on(api.RLen, 42), result(0, api.EHANDLE, 0, 0)),
		same("cap of none", l, w, 0, on(api.RCap, 42), result(0, api.EHANDLE, 0, 0)),
		same("len of a handle of nothing", l, w, 0, on(api.RLen, 0), result(0, api.EHANDLE, 0, 0)),
		same("cap of a handle of nothing", l, w, 0, on(api.RCap, math.MaxInt), result(0, api.EHANDLE, 0, 0)),
	})
}

func TestCancel_P12_2(t *testing.T) {
	l, w := []api.Chan{open(1, 0)}, wait(2, 4, recv(8))
	was := result(4, api.ECANCEL, 0, 0)
	late := result(0, api.ELATE, 0, 0)
	left := api.Wait{Seq: 4, Cases: w.Cases}
	run(t, []change{
		{what: "it waits", chans: l, wait: w, q: cancel(1, 4), wantChans: l, told: true, wantTold: was, want: result(0, api.OK, 0, 0)},
		{what: "by no thread", chans: l, wait: w, thread: -1, q: cancel(1, 4), wantChans: l, told: true, wantTold: was, want: result(0, api.OK, 0, 0)},
		same("one's own", l, w, 1, cancel(1, 4), late),
		same("a later call", l, w, 0, cancel(1, 3), late),
		same("an earlier call", l, w, 0, cancel(1, 5), late),
		same("what does not wait", l, left, 0, cancel(1, 4), late),
		same("what never waited", l, w, 0, cancel(2, 0), late),
		same("no thread", l, w, 0, cancel(3, 4), late),
		same("below 0", l, w, 0, cancel(-1, 4), late),
		same("far behind", l, w, 0, cancel(math.MaxInt, 4), late),
		same("far below", l, w, 0, cancel(math.MinInt, 4), late),
	})
}

func TestCancelAnyNumber_P12_2(t *testing.T) {
	for _, seq := range []int{0, -1, math.MaxInt, math.MinInt} {
		h := api.Hall{Waits: []api.Wait{{}, wait(0, seq)}, Done: make([]api.Result, 2)}
		got := hall.Apply(shape(1, 1, 1), h, 0, 1, cancel(1, seq))
		if text(got) != text(api.Hall{Waits: make([]api.Wait, 2), Done: []api.Result{result(1, api.OK, 0, 0), result(seq, api.ECANCEL, 0, 0)}}) {
			t.Errorf("%d: %+v", seq, got)
		}
	}
}

func TestNoSuchCall_P12_2(t *testing.T) {
	l, w := []api.Chan{open(1, 1, 5)}, wait(2, 4, send(8, 1))
	for _, kind := range []int{0, api.RPut, api.RTake, 10, -1, math.MaxInt, math.MinInt} {
		run(t, []change{same(fmt.Sprint(kind), l, w, 0, api.Request{Kind: kind, Arg: 8, Value: 1, Cases: []api.Case{recv(8)}}, result(0, api.EARG, 0, 0))})
	}
}

func TestSelectWrong_P12_2(t *testing.T) {
	l := []api.Chan{open(1, 1), closed(1, 1), {Gen: 2}}
	code := func(e api.Errno) api.Result { return result(0, e, 0, 0) }
	var cases []change
	add := func(what string, e api.Errno, k ...api.Case) {
		cases = append(cases, same(what, l, api.Wait{}, 0, sel(k...), code(e)), same(what+", with a default", l, api.Wait{}, 0, try(k...), code(e)))
	}
	add("no cases", api.EARG)
	add("four cases", api.EARG, send(8, 1), send(8, 1), send(8, 1), send(8, 1))
	for _, dir := range []int{0, 3, -1, math.MaxInt, math.MinInt} {
		add("no direction", api.EARG, api.Case{Dir: dir, Handle: 8})
		add("no direction, last", api.EARG, send(8, 1), send(8, 1), api.Case{Dir: dir, Handle: 8})
	}
	for _, value := range []int{-1, 1 << 32, math.MaxInt, math.MinInt} {
		add("no value", api.EARG, send(8, value))
		add("no value to receive", api.EARG, api.Case{Dir: api.Recv, Handle: 9, Value: value})
		add("no value, last", api.EARG, send(8, 1), recv(9), send(8, value))
	}
	for _, handle := range []int{0, 16, 10, 26, 18, 11, -8, math.MaxInt, math.MinInt} {
		add("no channel", api.EHANDLE, send(handle, 1))
		add("no channel, last", api.EHANDLE, send(8, 1), recv(9), recv(handle))
		add("no channel, and no value behind", api.EARG, send(handle, 1), send(8, -1))
	}
	run(t, cases)
}

func TestSelectDone_P12_2(t *testing.T) {
	l := []api.Chan{open(1, 1, 5), open(2, 0), closed(1, 1), closed(1, 1, 6)}
	with := func(place int, c api.Chan) []api.Chan {
		d := slices.Clone(l)
		d[place] = c
		return d
	}
	sends, receives := wait(2, 4, recv(8), send(17, 9)), wait(2, 4, send(8, 1), recv(17))
	var cases []change
	for _, ask := range []func(...api.Case) api.Request{sel, try} {
		cases = append(cases, []change{
			{what: "a value", chans: l, q: ask(recv(8)), wantChans: with(0, open(1, 1)), want: result(0, api.OK, 0, 5)},
			{what: "the second case", chans: l, q: ask(send(8, 1), recv(8)), wantChans: with(0, open(1, 1)), want: result(0, api.OK, 1, 5)},
			{what: "the third case", chans: l, q: ask(send(8, 1), recv(17), recv(8)), wantChans: with(0, open(1, 1)), want: result(0, api.OK, 2, 5)},
			{what: "the first of two", chans: l, q: ask(recv(17), recv(11), recv(8)), wantChans: with(3, closed(1, 1)), want: result(0, api.OK, 1, 6)},
			{what: "closed, empty", chans: l, q: ask(recv(17), recv(10), recv(8)), wantChans: l, want: result(0, api.ECLOSED, 1, 0)},
			{what: "closed, to send", chans: l, q: ask(send(17, 1), send(8, 1), send(11, 1)), wantChans: l, want: result(0, api.ECLOSED, 2, 0)},
			{what: "somebody sends", chans: l, wait: sends, thread: 2, q: ask(recv(17)), wantChans: l, told: true, wantTold: result(4, api.OK, 1, 0), want: result(0, api.OK, 0, 9)},
			{what: "somebody receives", chans: l, wait: receives, thread: 2, q: ask(send(17, 8)), wantChans: l, told: true, wantTold: result(4, api.OK, 1, 8), want: result(0, api.OK, 0, 0)},
			{what: "somebody sends into what is full", chans: l, wait: receives, q: ask(recv(8)), wantChans: with(0, open(1, 1, 1)), told: true, wantTold: result(4, api.OK, 0, 0), want: result(0, api.OK, 0, 5)},
			{what: "the ends of values", chans: l, wait: receives, q: ask(send(17, api.MaxValue)), wantChans: l, told: true, wantTold: result(4, api.OK, 1, api.MaxValue), want: result(0, api.OK, 0, 0)},
			{what: "a value to receive is not told", chans: l, q: ask(api.Case{Dir: api.Recv, Handle: 8, Value: api.MaxValue}), wantChans: with(0, open(1, 1)), want: result(0, api.OK, 0, 5)},
			{what: "one's own call waits", chans: l, wait: receives, thread: 1, q: ask(send(17, 8)), wantChans: l, want: result(0, api.OK, 0, 0)},
			{what: "by no thread", chans: l, wait: receives, thread: 3, q: ask(send(17, 8)), wantChans: l, told: true, wantTold: result(4, api.OK, 1, 8)},
			{what: "by a thread below 0", chans: l, wait: sends, thread: math.MinInt, q: ask(recv(17)), wantChans: l, told: true, wantTold: result(4, api.OK, 1, 0)},
		}...)
	}
	run(t, cases)
}

func TestSelectWaits_P12_2(t *testing.T) {
	l := []api.Chan{open(1, 1, 5), open(2, 0)}
	elsewhere := wait(2, 4, recv(17))
	none := result(0, api.EBLOCK, 0, 0)
	parks := func(what string, w api.Wait, thread int, k ...api.Case) change {
		return same(what, l, w, thread, sel(k...), result(0, api.EPARK, 0, 0))
	}
	run(t, []change{
		parks("to send", api.Wait{}, 0, send(8, 1)),
		parks("to receive", api.Wait{}, 2, recv(17)),
		parks("beside another", elsewhere, 2, recv(17)),
		parks("three cases", elsewhere, 0, send(8, api.MaxValue), recv(17), api.Case{Dir: api.Recv, Handle: 17, Value: 3}),
		parks("both sides of one channel", api.Wait{}, 0, send(17, 1), recv(17)),
		parks("where another call does not wait any more", api.Wait{Seq: 3, Cases: []api.Case{send(17, 1)}}, 0, recv(17)),
		same("with a default", l, elsewhere, 0, try(send(8, 1), recv(17)), none),
		same("with a default, of a thread that waits", l, elsewhere, 1, try(recv(17)), none),
		same("with a default, of no thread", l, elsewhere, 3, try(recv(17)), none),
		same("of a thread that waits", l, elsewhere, 1, sel(recv(17)), result(0, api.EBUSY, 0, 0)),
		same("of no thread", l, elsewhere, 3, sel(recv(17)), result(0, api.EBUSY, 0, 0)),
		same("of a thread below 0", l, elsewhere, -1, sel(recv(17)), result(0, api.EBUSY, 0, 0)),
		same("of a thread far behind", l, elsewhere, math.MaxInt, sel(recv(17)), result(0, api.EBUSY, 0, 0)),
	})
}

func TestTickets_P12_2(t *testing.T) {
	c := shape(1, 1, 1, 0)
	for ticket, code := range map[int]api.Errno{
		0: api.EPARK, -5: api.EPARK, math.MinInt: api.EPARK, api.MaxValue - 1: api.EPARK,
		api.MaxValue: api.ETAG, api.MaxValue + 1: api.ETAG, math.MaxInt: api.ETAG,
	} {
		h := hall.Start(c)
		h.Ticket = ticket
		want := hall.Start(c)
		want.Ticket, want.Done[0] = ticket, result(9, code, 0, 0)
		if code == api.EPARK {
			want.Ticket, want.Waits[0] = ticket+1, wait(ticket, 9, recv(8))
		}
		if got := hall.Apply(c, h, 0, 9, sel(recv(8))); text(got) != text(want) {
			t.Errorf("%d: %+v", ticket, got)
		}
		if got := hall.Apply(c, h, 0, 9, try(recv(8))); got.Ticket != ticket || got.Done[0].Code != api.EBLOCK {
			t.Errorf("%d, with a default: %+v", ticket, got)
		}
		if ticket >= api.MaxValue {
			if got := hall.Apply(c, h, 7, 9, sel(recv(8))); text(got) != text(h) {
				t.Errorf("%d, of no thread: %+v", ticket, got)
			}
		}
		h.Waits[1] = wait(1, 1, send(8, 3))
		if got := hall.Apply(c, h, 0, 9, sel(recv(8))); got.Ticket != ticket || got.Done[0] != result(9, api.OK, 0, 3) {
			t.Errorf("%d, ready: %+v", ticket, got)
		}
	}
}

// A hall made by hand may have more of one list than of another: what there is not is not told.
func TestListsOfAnyLength_P12_2(t *testing.T) {
	chans := []api.Chan{open(1, 0)}
	three := []api.Wait{{}, wait(0, 4, recv(8)), {}}
	for _, x := range []struct {
		what   string
		h      api.Hall
		thread int
		q      api.Request
		want   api.Hall
	}{
		{"nothing at all", api.Hall{}, 0, sel(recv(8)), api.Hall{}},
		{"no threads", api.Hall{Chans: chans}, 0, sel(recv(8)), api.Hall{Chans: chans}},
		{"told nobody", api.Hall{Chans: chans, Waits: three, Done: make([]api.Result, 1)}, 0, sel(send(8, 7)),
			api.Hall{Chans: chans, Waits: make([]api.Wait, 3), Done: []api.Result{result(5, api.OK, 0, 0)}}},
		{"cancelled, told nobody", api.Hall{Chans: chans, Waits: three, Done: make([]api.Result, 1)}, 0, cancel(1, 4),
			api.Hall{Chans: chans, Waits: make([]api.Wait, 3), Done: []api.Result{result(5, api.OK, 0, 0)}}},
		{"closed, told nobody", api.Hall{Chans: chans, Waits: three}, 0, on(api.RClose, 8),
			api.Hall{Chans: []api.Chan{closed(1, 0)}, Waits: make([]api.Wait, 3)}},
		{"waits, told nobody", api.Hall{Chans: chans, Waits: make([]api.Wait, 2)}, 1, sel(recv(8)),
			api.Hall{Ticket: 1, Chans: chans, Waits: []api.Wait{{}, wait(0, 5, recv(8))}}},
		{"can't wait, told", api.Hall{Chans: chans, Waits: make([]api.Wait, 1), Done: make([]api.Result, 2)}, 1, sel(recv(8)),
			api.Hall{Chans: chans, Waits: make([]api.Wait, 1), Done: []api.Result{{}, result(5, api.EBUSY, 0, 0)}}},
		{"a place that no handle names", api.Hall{Chans: append(slices.Repeat([]api.Chan{open(1, 0)}, 8), api.Chan{}), Done: make([]api.Result, 1)}, 0, on(api.RMake, 1),
			api.Hall{Chans: append(slices.Repeat([]api.Chan{open(1, 0)}, 8), open(1, 1)), Done: []api.Result{result(5, api.OK, 0, 0)}}},
	} {
		if got := hall.Apply(shape(1, 1, 9), x.h, x.thread, 5, x.q); text(got) != text(x.want) {
			t.Errorf("%s: %+v", x.what, got)
		}
	}
}

func TestAnySeq_P12_2(t *testing.T) {
	c := shape(1, 1, 1, 1)
	for _, seq := range []int{0, -1, 1, math.MaxInt, math.MinInt, api.MaxSeqs + 1} {
		h := hall.Apply(c, hall.Start(c), 0, seq, on(api.RLen, 8))
		h = hall.Apply(c, h, 1, seq, sel(recv(8)))
		if h.Done[0] != result(seq, api.OK, 0, 0) || h.Done[1] != result(seq, api.EPARK, 0, 0) || h.Waits[1].Seq != seq {
			t.Errorf("%d: %+v", seq, h)
		}
		if h = hall.Apply(c, h, 0, 2, sel(send(8, 6))); h.Done[1] != result(seq, api.OK, 0, 6) {
			t.Errorf("%d: %+v", seq, h)
		}
	}
}

func TestExample_P12_2(t *testing.T) {
	c := shape(1, 0, 1, 0)
	h := hall.Apply(c, hall.Start(c), 0, 1, sel(recv(8)))
	if h.Done[0] != result(1, api.EPARK, 0, 0) {
		t.Error(h)
	}
	if h = hall.Apply(c, h, 1, 1, sel(send(8, 5))); h.Done[0] != result(1, api.OK, 0, 5) || h.Done[1] != result(1, api.OK, 0, 0) {
		t.Error(h)
	}
}

func TestHandles_P12_3(t *testing.T) {
	for _, x := range []struct {
		what string
		l    []api.Chan
		want []int
	}{
		{"no places", nil, nil},
		{"no channels", []api.Chan{{}, {Gen: 5, Closed: true, Cap: 1, Buf: []int{1}}}, nil},
		{"by place", []api.Chan{open(9, 1), closed(1, 2, 3), {Gen: 4}, open(2, 0)}, []int{72, 9, 19}},
		{"all places", slices.Repeat([]api.Chan{open(4095, 1)}, 8), []int{32760, 32761, 32762, 32763, 32764, 32765, 32766, 32767}},
	} {
		if got := hall.Handles(api.Hall{Chans: x.l}); !slices.Equal(got, x.want) {
			t.Errorf("%s: %v", x.what, got)
		}
	}
}

func TestHandlesAreFound_P12_1_P12_3(t *testing.T) {
	c := shape(8, 2, 3)
	h := hall.Start(c)
	for n := range 8 {
		h = hall.Apply(c, h, 0, n, on(api.RMake, n%3))
		if place, ok := hall.Find(h, h.Done[0].Value); !ok || place != n {
			t.Error(place, ok)
		}
	}
	for place, handle := range hall.Handles(h) {
		if handle != ref.Handle(place, 1) {
			t.Error(place, handle)
		}
	}
}

// spoil writes into all lists of a hall, the room behind their ends included.
func spoil(h api.Hall) {
	chans := h.Chans[:cap(h.Chans)]
	for i := range chans {
		buf := chans[i].Buf[:cap(chans[i].Buf)]
		for k := range buf {
			buf[k] = -9
		}
		chans[i] = api.Chan{Gen: -9}
	}
	for i := range h.Waits[:cap(h.Waits)] {
		cases := h.Waits[i].Cases[:cap(h.Waits[i].Cases)]
		for k := range cases {
			cases[k] = api.Case{Dir: -9, Handle: -9, Value: -9}
		}
		h.Waits[:cap(h.Waits)][i] = api.Wait{Seq: -9}
	}
	for i := range h.Done[:cap(h.Done)] {
		h.Done[:cap(h.Done)][i] = api.Result{Seq: -9}
	}
}

func TestNewMemory_P12_1_P12_2(t *testing.T) {
	whole := func() api.Hall {
		return api.Hall{
			Chans: []api.Chan{open(1, 2, 5, 6, 7), open(1, 0), {Gen: 3, Buf: []int{1, 2}}, open(2, 0), open(8, 8)},
			Waits: []api.Wait{{Cases: []api.Case{recv(8), recv(9)}}, wait(6, 2, send(9, 4), recv(11), recv(9)), {}, wait(1, 1, recv(8))},
			Done:  []api.Result{{}, result(2, api.EPARK, 0, 0), result(3, api.EARG, 0, 0), result(4, api.OK, 0, 0)},
		}
	}
	// part has room behind each of its lists.
	part := func(h api.Hall) api.Hall {
		h.Chans, h.Waits, h.Done = slices.Clone(h.Chans[:5])[:4], h.Waits[:3], h.Done[:3]
		for i, c := range h.Chans {
			h.Chans[i].Buf = c.Buf[:len(c.Buf)*2/3]
		}
		h.Waits[0].Cases, h.Waits[1].Cases = h.Waits[0].Cases[:1], h.Waits[1].Cases[:2]
		return h
	}
	cases := func() []api.Case { return []api.Case{recv(9), recv(8), send(8, 5)} }
	for what, q := range map[string]api.Request{
		"make":    on(api.RMake, 1),
		"free":    on(api.RFree, 8),
		"close":   on(api.RClose, 9),
		"closes":  on(api.RClose, 8),
		"len":     on(api.RLen, 8),
		"cancel":  cancel(1, 2),
		"late":    cancel(1, 3),
		"nothing": on(0, 0),
		"waits":   sel(recv(19)),
		"done":    sel(recv(19), recv(8)),
		"told":    sel(recv(9)),
		"put":     sel(send(8, 1)),
	} {
		h, k := whole(), cases()
		p := part(h)
		if q.Cases != nil {
			q.Cases = append(k[:0:3], q.Cases...)
		}
		before, asked := text(h, p, p.Chans[:5]), text(k)
		got, again := hall.Apply(shape(4, 3, 9), p, 2, 7, q), hall.Apply(shape(4, 3, 9), p, 2, 7, q)
		want := text(again)
		if text(h, p, p.Chans[:5]) != before || text(k) != asked {
			t.Errorf("%s changed %+v, %+v", what, h, k)
		}
		if got.Waits[2].On { // a call's cases are handed on, and may keep their list
			got.Waits[2], again.Waits[2].Cases = api.Wait{}, slices.Clone(again.Waits[2].Cases)
		}
		spoil(got)
		if text(h, p, p.Chans[:5]) != before || text(k) != asked {
			t.Errorf("%s shares %+v, %+v", what, h, k)
		}
		if text(again) != want {
			t.Errorf("%s: two answers share %+v", what, again)
		}
	}
	h := whole()
	p := part(h)
	before := text(h, p, p.Chans[:5])
	spoil(hall.Copy(p))
	if text(h, p, p.Chans[:5]) != before {
		t.Errorf("copy shares %+v", h)
	}
	start := []int{1, 2, 3}
	c := shape(2, 3, 9, start[:2]...)
	spoil(hall.Start(c))
	spoil(hall.Apply(c, hall.Start(c), 0, 1, on(api.RMake, 1)))
	if !slices.Equal(start, []int{1, 2, 3}) {
		t.Error(start)
	}
}
