package sane_test

import (
	"fmt"
	"math"
	"slices"
	"testing"

	"stopgate/api"
	"stopgate/hall"
	"stopgate/ref"
	"stopgate/sane"
)

func send(handle, value int) api.Case {
	return api.Case{Dir: api.Send, Handle: handle, Value: value}
}

func recv(handle int) api.Case { return api.Case{Dir: api.Recv, Handle: handle} }

func wait(ticket, seq int, cases ...api.Case) api.Wait {
	return api.Wait{On: true, Ticket: ticket, Seq: seq, Cases: cases}
}

func open(gen, capacity int, values ...int) api.Chan {
	return api.Chan{Gen: gen, Cap: capacity, Used: true, Buf: values}
}

func closed(gen, capacity int, values ...int) api.Chan {
	return api.Chan{Gen: gen, Cap: capacity, Used: true, Closed: true, Buf: values}
}

func parked(seq int) api.Result { return api.Result{Seq: seq, Code: api.EPARK} }

// sound is a hall of which all holds: one waits to send into 8, two to receive from 17, one of them from 10 too.
func sound() api.Hall {
	return api.Hall{
		Ticket: 9,
		Chans:  []api.Chan{open(1, 1, 5), open(2, 0), open(1, 3), {Gen: 4}, closed(1, 2, 7)},
		Waits:  []api.Wait{wait(8, 3, send(8, 6)), {}, wait(0, 1, recv(17), recv(10)), wait(4, 2, recv(17)), {}},
		Done:   []api.Result{parked(3), {Seq: 2}, parked(1), parked(2), {Seq: 1, Code: api.ECANCEL}},
	}
}

func TestExample_P35_1(t *testing.T) {
	h := api.Hall{Ticket: 1, Chans: []api.Chan{open(1, 0)}, Waits: []api.Wait{wait(0, 1, send(8, 5))}, Done: []api.Result{parked(1)}}
	if got := sane.Wrong(h); got != api.HHolds {
		t.Error(got)
	}
	h.Chans[0].Closed = true
	if got := sane.Wrong(h); got != api.HReady {
		t.Error(got)
	}
}

func TestWrong_P35_1(t *testing.T) {
	for _, c := range []struct {
		what   string
		change func(h *api.Hall)
		want   int
	}{
		{"sound", func(h *api.Hall) {}, api.HHolds},
		{"nothing", func(h *api.Hall) { *h = api.Hall{} }, api.HHolds},
		{"places alone", func(h *api.Hall) { *h = api.Hall{Chans: make([]api.Chan, 3)} }, api.HHolds},
		{"threads alone", func(h *api.Hall) { *h = api.Hall{Waits: make([]api.Wait, 2), Done: make([]api.Result, 2)} }, api.HHolds},

		{"no channel", func(h *api.Hall) { h.Waits[0].Cases[0].Handle = 0 }, api.HHandles},
		{"another generation", func(h *api.Hall) { h.Chans[0].Gen = 2 }, api.HHandles},
		{"a place without a channel", func(h *api.Hall) { h.Waits[0].Cases[0].Handle = 35 }, api.HHandles},
		{"no place", func(h *api.Hall) { h.Waits[0].Cases[0].Handle = 13 }, api.HHandles},
		{"far away", func(h *api.Hall) { h.Waits[0].Cases[0].Handle = math.MinInt }, api.HHandles},
		{"the last case", func(h *api.Hall) { h.Waits[2].Cases[1].Handle = 18 }, api.HHandles},
		{"left behind", func(h *api.Hall) { h.Waits[4].Cases = []api.Case{send(8, 1), send(35, 1)} }, api.HHandles},
		{"left behind, and there", func(h *api.Hall) { h.Waits[4].Cases = []api.Case{send(17, 1), recv(8)} }, api.HHolds},
		{"no cases", func(h *api.Hall) { h.Waits[0].Cases = nil }, api.HHolds},

		{"a ticket below 0", func(h *api.Hall) { h.Waits[2].Ticket = -1 }, api.HTickets},
		{"far below 0", func(h *api.Hall) { h.Waits[0].Ticket = math.MinInt }, api.HTickets},
		{"a ticket that was not given out", func(h *api.Hall) { h.Waits[0].Ticket = 9 }, api.HTickets},
		{"far from given out", func(h *api.Hall) { h.Waits[0].Ticket = math.MaxInt }, api.HTickets},
		{"fewer given out", func(h *api.Hall) { h.Ticket = 8 }, api.HTickets},
		{"none given out", func(h *api.Hall) { h.Ticket = 0 }, api.HTickets},
		{"twice", func(h *api.Hall) { h.Waits[3].Ticket = 8 }, api.HTickets},
		{"twice 0", func(h *api.Hall) { h.Waits[3].Ticket = 0 }, api.HTickets},
		{"left behind, twice and beyond", func(h *api.Hall) { h.Waits[1].Ticket, h.Waits[4].Ticket = 8, 99 }, api.HHolds},
		{"a great ticket", func(h *api.Hall) { h.Ticket = math.MaxInt }, api.HHolds},
		{"nobody waits", func(h *api.Hall) { h.Ticket, h.Waits, h.Done = math.MinInt, h.Waits[1:2], h.Done[1:2] }, api.HHolds},

		{"fewer results", func(h *api.Hall) { h.Done = h.Done[:4] }, api.HDone},
		{"more results", func(h *api.Hall) { h.Done = append(h.Done, api.Result{}) }, api.HDone},
		{"waits, and was told", func(h *api.Hall) { h.Done[0].Code = api.OK }, api.HDone},
		{"waits, and was told of another", func(h *api.Hall) { h.Done[0].Seq = 2 }, api.HDone},
		{"waits by another number", func(h *api.Hall) { h.Waits[3].Seq = 3 }, api.HDone},
		{"was told to wait, and does not", func(h *api.Hall) { h.Done[1].Code = api.EPARK }, api.HDone},
		{"was told to wait last, and does not", func(h *api.Hall) { h.Done[4].Code = api.EPARK }, api.HDone},
		{"numbers of those that do not wait", func(h *api.Hall) { h.Waits[1].Seq, h.Done[4].Seq = 77, -1 }, api.HHolds},
		{"more in a result", func(h *api.Hall) { h.Done[0].Value, h.Done[2].Case = 3, 2 }, api.HHolds},

		{"closed", func(h *api.Hall) { h.Chans[1].Closed = true }, api.HReady},
		{"the second case closed", func(h *api.Hall) { h.Chans[2].Closed = true }, api.HReady},
		{"room", func(h *api.Hall) { h.Chans[0].Buf = nil }, api.HReady},
		{"more room", func(h *api.Hall) { h.Chans[0].Cap = 2 }, api.HReady},
		{"a value", func(h *api.Hall) { h.Chans[2].Buf = []int{0} }, api.HReady},
		{"another one sends", func(h *api.Hall) { h.Waits[3].Cases[0] = send(17, 1) }, api.HReady},
		{"another one sends by its second case", func(h *api.Hall) { h.Waits[0].Cases = append(h.Waits[0].Cases, send(17, 1)) }, api.HReady},
		{"another one receives what is full", func(h *api.Hall) { h.Waits[0].Cases, h.Waits[3].Cases = []api.Case{send(17, 1)}, nil }, api.HReady},
		{"itself sends", func(h *api.Hall) {
			h.Waits[2].Cases[0], h.Waits[3].Cases = send(17, 1), []api.Case{recv(17), send(17, 1)}
		}, api.HReady},
		{"itself alone", func(h *api.Hall) {
			h.Waits[3].Cases, h.Waits[2].Cases = []api.Case{recv(17), send(17, 1)}, []api.Case{recv(10)}
		}, api.HHolds},
		{"what is left sends", func(h *api.Hall) { h.Waits[1].Cases = []api.Case{send(17, 1)} }, api.HHolds},
		{"what is left could be done", func(h *api.Hall) { h.Waits[1].Cases = []api.Case{recv(8), send(10, 1), recv(12)} }, api.HHolds},
		{"another direction, and a value", func(h *api.Hall) { h.Waits[3].Cases[0] = api.Case{Dir: 7, Handle: 8} }, api.HReady},
		{"another direction, and none", func(h *api.Hall) { h.Waits[3].Cases[0] = api.Case{Dir: 7, Handle: 17} }, api.HHolds},
		{"directions that are 3 together", func(h *api.Hall) {
			h.Waits[3].Cases[0], h.Waits[0].Cases[0] = api.Case{Dir: 7, Handle: 17}, api.Case{Dir: -4, Handle: 17}
		}, api.HReady},
		{"directions that are 3 together, gone round", func(h *api.Hall) {
			h.Waits[3].Cases[0], h.Waits[0].Cases[0] = api.Case{Dir: math.MaxInt, Handle: 17}, api.Case{Dir: math.MinInt + 4, Handle: 17}
		}, api.HReady},
		{"directions that are not", func(h *api.Hall) {
			h.Waits[3].Cases[0], h.Waits[0].Cases[0] = api.Case{Dir: 7, Handle: 17}, api.Case{Dir: -3, Handle: 17}
		}, api.HHolds},

		{"more values than Cap", func(h *api.Hall) { h.Chans[0].Buf = []int{1, 2} }, api.HOver},
		{"a Cap below 0", func(h *api.Hall) { h.Chans[1].Cap = -1 }, api.HOver},
		{"far below 0", func(h *api.Hall) { h.Chans[1].Cap = math.MinInt }, api.HOver},
		{"a Gen below 0", func(h *api.Hall) { h.Chans[3].Gen = -1 }, api.HOver},
		{"a used Gen below 0", func(h *api.Hall) { h.Chans[4].Gen = -1 }, api.HOver},
		{"a used Gen of 0", func(h *api.Hall) { h.Chans[4].Gen = 0 }, api.HOver},
		{"a Gen of 0", func(h *api.Hall) { h.Chans[3].Gen = 0 }, api.HHolds},
		{"a great Gen", func(h *api.Hall) { h.Chans[4].Gen, h.Chans[3].Gen = math.MaxInt, math.MaxInt }, api.HHolds},
		{"none, closed", func(h *api.Hall) { h.Chans[3].Closed = true }, api.HOver},
		{"none, with Cap", func(h *api.Hall) { h.Chans[3].Cap = 1 }, api.HOver},
		{"none, with Cap below 0", func(h *api.Hall) { h.Chans[3].Cap = -1 }, api.HOver},
		{"none, with values", func(h *api.Hall) { h.Chans[3].Buf = []int{1} }, api.HOver},
		{"none, with values and Cap", func(h *api.Hall) { h.Chans[3].Cap, h.Chans[3].Buf = 1, []int{1} }, api.HOver},
		{"full", func(h *api.Hall) { h.Chans[4].Buf = []int{1, 2} }, api.HHolds},
		{"a ninth place", func(h *api.Hall) { h.Chans = slices.Concat(h.Chans, make([]api.Chan, 3), []api.Chan{{Cap: 1}}) }, api.HOver},
	} {
		h := sound()
		c.change(&h)
		if got := sane.Wrong(h); got != c.want {
			t.Errorf("%s: %d, not %d", c.what, got, c.want)
		}
	}
}

// Where several things do not hold, the one that the document names first is told.
func TestFirstWrong_P35_1(t *testing.T) {
	h := sound()
	break5 := func() { h.Chans[3].Cap = 1 }
	break4 := func() { h.Chans[2].Closed = true }
	break3 := func() { h.Done[1].Code = api.EPARK }
	break2 := func() { h.Waits[0].Ticket = 9 }
	break1 := func() { h.Waits[3].Cases = append(h.Waits[3].Cases, recv(9)) }
	for n, breaks := range []func(){break5, break4, break3, break2, break1} {
		breaks()
		if got := sane.Wrong(h); got != 5-n {
			t.Errorf("%d, not %d", got, 5-n)
		}
	}
}

// pick is a mixed number below n.
func pick(mixed *uint64, n int) int {
	*mixed = *mixed*6364136223846793005 + 1442695040888963407
	return int(*mixed >> 33 % uint64(n))
}

// plainWrong is Wrong, said anew: each thing by a search of its own.
func plainWrong(h api.Hall) int {
	has := func(x api.Case) (api.Chan, bool) {
		place, gen, ok := ref.Place(x.Handle)
		if !ok || place >= len(h.Chans) || !h.Chans[place].Used || h.Chans[place].Gen != gen {
			return api.Chan{}, false
		}
		return h.Chans[place], true
	}
	for _, w := range h.Waits {
		for _, x := range w.Cases {
			if _, ok := has(x); !ok {
				return 1
			}
		}
	}
	for t, w := range h.Waits {
		if w.On && (w.Ticket < 0 || w.Ticket >= h.Ticket) {
			return 2
		}
		for _, v := range h.Waits[:t] {
			if v.On && w.On && v.Ticket == w.Ticket {
				return 2
			}
		}
	}
	if len(h.Done) != len(h.Waits) {
		return 3
	}
	for t, w := range h.Waits {
		if w.On != (h.Done[t].Code == api.EPARK) || w.On && w.Seq != h.Done[t].Seq {
			return 3
		}
	}
	for t, w := range h.Waits {
		for _, x := range w.Cases {
			c, _ := has(x)
			ready := c.Closed || x.Dir == api.Send && len(c.Buf) < c.Cap || x.Dir != api.Send && len(c.Buf) > 0
			for u, v := range h.Waits {
				for _, y := range v.Cases {
					ready = ready || u != t && v.On && y.Handle == x.Handle && y.Dir+x.Dir == 3
				}
			}
			if w.On && ready {
				return 4
			}
		}
	}
	for _, c := range h.Chans {
		if len(c.Buf) > c.Cap || c.Gen < 0 || c.Used && c.Gen == 0 || !c.Used && (c.Closed || c.Cap != 0) {
			return 5
		}
	}
	return 0
}

// Of many halls made by hand Wrong says what a plain search says.
func TestWrongPlainly_P35_1(t *testing.T) {
	mixed := uint64(4)
	seen := [6]int{}
	for range 60000 {
		h := api.Hall{Ticket: 3 + pick(&mixed, 12)}
		for range 1 + pick(&mixed, 3) {
			c := api.Chan{Gen: 1, Used: pick(&mixed, 8) > 0}
			if c.Used {
				c.Cap, c.Closed = pick(&mixed, 3), pick(&mixed, 9) == 0
				c.Buf = make([]int, pick(&mixed, 9)/4)
			}
			h.Chans = append(h.Chans, c)
		}
		for range pick(&mixed, 5) {
			w := api.Wait{On: pick(&mixed, 3) > 0, Ticket: pick(&mixed, 12), Seq: pick(&mixed, 2)}
			for range pick(&mixed, 3) {
				w.Cases = append(w.Cases, api.Case{Dir: 1 + pick(&mixed, 2), Handle: 8 + pick(&mixed, len(h.Chans))})
			}
			r := api.Result{Seq: w.Seq}
			if w.On != (pick(&mixed, 12) == 0) {
				r.Code = api.EPARK
			}
			h.Waits, h.Done = append(h.Waits, w), append(h.Done, r)
		}
		got := sane.Wrong(h)
		if want := plainWrong(h); got != want {
			t.Fatalf("%+v: %d, not %d", h, got, want)
		}
		seen[got]++
	}
	if slices.Min(seen[:]) < 500 {
		t.Error(seen)
	}
}

func TestWaiting_P35_2(t *testing.T) {
	h := api.Hall{Waits: []api.Wait{
		wait(9, 1, recv(8), send(9, 1)), wait(3, 1, send(8, 1)), wait(5, 1, send(9, 1), recv(9), recv(8)),
		{Ticket: 1, Cases: []api.Case{recv(8)}}, wait(-2, 1, recv(8), recv(8)), wait(5, 1, recv(8), send(8, 1)), wait(1, 1), wait(2, 1, recv(9), send(8, 1)),
	}}
	for _, c := range []struct {
		handle, dir int
		want        []int
	}{
		{8, api.Recv, []int{4, 2, 5, 0}},
		{8, api.Send, []int{7, 1, 5}},
		{9, api.Recv, []int{7, 2}},
		{9, api.Send, []int{2, 0}},
		{8, 0, nil},
		{8, 3, nil},
		{0, api.Recv, nil},
		{math.MinInt, math.MaxInt, nil},
	} {
		if got := sane.Waiting(h, c.handle, c.dir); !slices.Equal(got, c.want) {
			t.Errorf("Waiting(%d, %d) = %v", c.handle, c.dir, got)
		}
	}
	odd := api.Hall{Waits: []api.Wait{wait(0, 1, api.Case{Dir: -7, Handle: math.MinInt})}}
	if got := sane.Waiting(odd, math.MinInt, -7); !slices.Equal(got, []int{0}) {
		t.Error(got)
	}
	if got := sane.Waiting(api.Hall{}, 8, api.Recv); len(got) != 0 {
		t.Error(got)
	}
}

func TestLoad_P35_2(t *testing.T) {
	for _, c := range []struct {
		what     string
		h        api.Hall
		in, more int
	}{
		{"nothing", api.Hall{}, 0, 0},
		{"sound", sound(), 2, 1},
		{"values", api.Hall{Chans: []api.Chan{open(1, 9, 1, 2, 3), {}, closed(1, 1, 0), open(1, 2)}}, 4, 0},
		{"calls", api.Hall{Waits: []api.Wait{
			wait(0, 1, send(8, 1), send(9, 1)), wait(1, 1, recv(8)), wait(2, 1, recv(8), recv(9), send(9, 1)), {Cases: []api.Case{send(8, 1)}}, wait(3, 1), wait(4, 1, api.Case{Dir: 3}, api.Case{}),
		}}, 0, 2},
	} {
		if in, more := sane.Load(c.h); in != c.in || more != c.more {
			t.Errorf("%s: %d, %d", c.what, in, more)
		}
	}
}

func TestOpen_P35_2(t *testing.T) {
	for _, c := range []struct {
		what string
		l    []api.Chan
		want []int
	}{
		{"no places", nil, nil},
		{"no channels", []api.Chan{{}, {Gen: 5}, {Gen: 5, Closed: true}}, nil},
		{"closed", []api.Chan{closed(1, 2, 3)}, nil},
		{"by place", []api.Chan{open(9, 1), closed(1, 1), {Gen: 3}, open(2, 0, 4)}, []int{72, 19}},
	} {
		if got := sane.Open(api.Hall{Chans: c.l}); !slices.Equal(got, c.want) {
			t.Errorf("%s: %v", c.what, got)
		}
	}
}

// one is a select of one case that waits, if it must.
func one(c api.Case) api.Request {
	return api.Request{Kind: api.RSelect, Cases: []api.Case{c}}
}

// request is a mixed call; what is sent is another value each time.
func request(mixed *uint64, h api.Hall, n int) api.Request {
	handle := func() int {
		l := hall.Handles(h)
		if len(l) == 0 || pick(mixed, 15) == 0 {
			return pick(mixed, 40)
		}
		return l[pick(mixed, len(l))]
	}
	switch k := pick(mixed, 20); {
	case k == 0:
		return api.Request{Kind: api.RMake, Arg: pick(mixed, 4)}
	case k == 1:
		t := pick(mixed, len(h.Waits))
		return api.Request{Kind: api.RCancel, Arg: t, Value: h.Waits[t].Seq}
	case k <= 4:
		return api.Request{Kind: []int{api.RFree, api.RClose, api.RLen}[k-2], Arg: handle()}
	case k == 5:
		return api.Request{Kind: pick(mixed, 12), Arg: pick(mixed, 20), Value: pick(mixed, 3)}
	}
	q := api.Request{Kind: api.RSelect, Default: pick(mixed, 3) == 0}
	for k := range 1 + pick(mixed, 3) {
		q.Cases = append(q.Cases, api.Case{Dir: 1 + pick(mixed, 2), Handle: handle(), Value: 3*n + k})
	}
	return q
}

// flow is what was sent by each channel, and what was received.
type flow struct{ sent, got map[int][]int }

// note notes what a call came to, once it has come to something.
func (f flow) note(q api.Request, r api.Result) {
	if q.Kind != api.RSelect || r.Code != api.OK {
		return
	}
	x := q.Cases[r.Case]
	if x.Dir == api.Send {
		f.sent[x.Handle] = append(f.sent[x.Handle], x.Value)
		return
	}
	f.got[x.Handle] = append(f.got[x.Handle], r.Value)
}

// From the start on, by calls of threads that do not wait, all holds at each moment, and by each channel what is received is what was sent.
func TestCallsLeadToSane_P35_3_P35_4(t *testing.T) {
	waited, received := 0, 0
	for row := range 150 {
		mixed := uint64(row)
		c := api.Config{Kind: api.KHall, Threads: 1 + row%5, Chans: 1 + row%3, Cap: 3, Gens: 1 + row%4}
		for range pick(&mixed, c.Chans+1) {
			c.Start = append(c.Start, pick(&mixed, 4))
		}
		h, f := hall.Start(c), flow{map[int][]int{}, map[int][]int{}}
		if e := sane.Wrong(h); e != api.HHolds {
			t.Fatal(row, e, h)
		}
		asked := make([]api.Request, c.Threads)
		for n := range 300 {
			who := pick(&mixed, c.Threads)
			if h.Waits[who].On {
				waited++
				continue
			}
			asked[who] = request(&mixed, h, n)
			g := hall.Apply(c, h, who, n+1, asked[who])
			if e := sane.Wrong(g); e != api.HHolds {
				t.Fatalf("row %d: %+v leads from %+v to %+v: %d", row, asked[who], h, g, e)
			}
			// A sender that waited stands ahead of the one that it lets go on, so it is noted first.
			for u := range h.Waits {
				if h.Waits[u].On && !g.Waits[u].On {
					f.note(asked[u], g.Done[u])
				}
			}
			f.note(asked[who], g.Done[who])
			h = g
		}
		for handle, got := range f.got {
			sent := f.sent[handle]
			if len(got) > len(sent) || !slices.Equal(got, sent[:len(got)]) {
				t.Fatalf("row %d, by %d: %v of %v", row, handle, got, sent)
			}
			received += len(got)
		}
		for handle, sent := range f.sent {
			left := 0
			if place, ok := hall.Find(h, handle); ok {
				left = len(h.Chans[place].Buf)
			}
			if len(f.got[handle])+left != len(sent) {
				t.Fatalf("row %d, by %d: %v and %d of %v", row, handle, f.got[handle], left, sent)
			}
		}
	}
	if waited < 1000 || received < 1000 {
		t.Error(waited, received)
	}
}

// All ways of three threads that each do one of a few calls of one channel, one behind the other.
func TestShortWaysAreSane_P35_3(t *testing.T) {
	for capacity := range 3 {
		c := api.Config{Kind: api.KHall, Threads: 3, Chans: 1, Cap: 2, Gens: 2, Start: []int{capacity}}
		calls := []api.Request{
			one(send(8, 4)), one(recv(8)), {Kind: api.RSelect, Cases: []api.Case{recv(8), send(8, 5)}},
			{Kind: api.RClose, Arg: 8}, {Kind: api.RFree, Arg: 8}, {Kind: api.RMake, Arg: 1}, {Kind: api.RCancel, Arg: 1, Value: 1},
		}
		var walk func(h api.Hall, depth int)
		walk = func(h api.Hall, depth int) {
			if e := sane.Wrong(h); e != api.HHolds {
				t.Fatalf("%+v: %d", h, e)
			}
			for who, w := range h.Waits {
				if depth == 0 || w.On {
					continue
				}
				for _, q := range calls {
					walk(hall.Apply(c, h, who, h.Done[who].Seq+1, q), depth-1)
				}
			}
		}
		walk(hall.Start(c), 4)
	}
}

// Many that wait, for many, are looked through in one go.
func TestMany_P35_1(t *testing.T) {
	const many = 1 << 16
	h := api.Hall{Ticket: many, Chans: []api.Chan{open(1, 0), open(1, 0)}}
	for n := range many {
		h.Waits = append(h.Waits, wait(n, 1, recv(8), send(9, 1)))
		h.Done = append(h.Done, parked(1))
	}
	if got := sane.Wrong(h); got != api.HHolds {
		t.Error(got)
	}
	h.Waits[0].Cases[1].Dir = api.Recv
	if got := sane.Wrong(h); got != api.HReady {
		t.Error(got)
	}
	if got := sane.Waiting(h, 9, api.Recv); !slices.Equal(got, []int{0}) {
		t.Error(got)
	}
	if in, more := sane.Load(h); in != 0 || more != many-1 {
		t.Error(in, more)
	}
}

func TestNothingChanged_P35_1_P35_2(t *testing.T) {
	h := sound()
	h.Waits = append(h.Waits, wait(3, 1, recv(17)))
	part := h
	part.Waits = h.Waits[:5]
	before := fmt.Sprintf("%+v", h)
	sane.Wrong(part)
	sane.Load(part)
	on, gates := sane.Waiting(part, 17, api.Recv), sane.Open(part)
	if got := fmt.Sprintf("%+v", h); got != before {
		t.Error(got)
	}
	on[0], gates[0] = -9, -9
	if got := fmt.Sprintf("%+v", h); got != before {
		t.Error(got)
	}
	if on, gates = sane.Waiting(part, 17, api.Recv), sane.Open(part); !slices.Equal(on, []int{2, 3}) || !slices.Equal(gates, []int{8, 17, 10}) {
		t.Error(on, gates)
	}
}
