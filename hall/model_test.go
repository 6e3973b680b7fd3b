package hall_test

import (
	"slices"
	"testing"

	"stopgate/api"
	"stopgate/hall"
)

// box is a channel as a plain program has it.
type box struct {
	handle, capacity int
	shut             bool
	values           []int
}

// parked is a call that waits: those that came first stand first.
type parked struct {
	thread, seq int
	cases       []api.Case
}

// model is what a hall does, done by lists of what there is: no places, no tickets.
type model struct {
	c     api.Config
	boxes []*box
	gens  []int
	line  []parked
	done  []api.Result
}

func newModel(c api.Config) *model {
	m := &model{c: c, gens: make([]int, c.Chans), done: make([]api.Result, c.Threads)}
	for place, capacity := range c.Start {
		m.gens[place] = 1
		m.boxes = append(m.boxes, &box{handle: 8 + place, capacity: capacity})
	}
	return m
}

func (m *model) find(handle int) *box {
	for _, b := range m.boxes {
		if b.handle == handle {
			return b
		}
	}
	return nil
}

// meet takes the first call out of the line that has a case of that handle and direction (0: any).
func (m *model) meet(handle, dir int) (parked, int, bool) {
	for i, p := range m.line {
		for k, x := range p.cases {
			if x.Handle == handle && (x.Dir == dir || dir == 0) {
				m.line = slices.Delete(m.line, i, i+1)
				return p, k, true
			}
		}
	}
	return parked{}, 0, false
}

// one is what one case comes to; false: it would have to wait.
func (m *model) one(x api.Case) (api.Errno, int, bool) {
	b := m.find(x.Handle)
	if x.Dir == api.Send {
		if b.shut {
			return api.ECLOSED, 0, true
		}
		if p, k, ok := m.meet(x.Handle, api.Recv); ok {
			m.done[p.thread] = result(p.seq, api.OK, k, x.Value)
			return api.OK, 0, true
		}
		if len(b.values) < b.capacity {
			b.values = append(b.values, x.Value)
			return api.OK, 0, true
		}
		return 0, 0, false
	}
	if p, k, ok := m.meet(x.Handle, api.Send); ok {
		m.done[p.thread] = result(p.seq, api.OK, k, 0)
		b.values = append(b.values, p.cases[k].Value)
	}
	if len(b.values) > 0 {
		v := b.values[0]
		b.values = b.values[1:]
		return api.OK, v, true
	}
	return api.ECLOSED, 0, b.shut
}

func (m *model) choose(t, seq int, q api.Request) api.Result {
	for _, x := range q.Cases {
		if m.find(x.Handle) == nil {
			return result(seq, api.EHANDLE, 0, 0)
		}
	}
	for k, x := range q.Cases {
		if e, v, ok := m.one(x); ok {
			return result(seq, e, k, v)
		}
	}
	if q.Default {
		return result(seq, api.EBLOCK, 0, 0)
	}
	m.line = append(m.line, parked{t, seq, q.Cases})
	return result(seq, api.EPARK, 0, 0)
}

func (m *model) make(seq, capacity int) api.Result {
	why := api.ENOMEM
	for place := range m.gens {
		if slices.ContainsFunc(m.boxes, func(b *box) bool { return b.handle%8 == place }) {
			continue
		}
		if m.gens[place] < m.c.Gens {
			m.gens[place]++
			handle := m.gens[place]*8 + place
			m.boxes = append(m.boxes, &box{handle: handle, capacity: capacity})
			return result(seq, api.OK, 0, handle)
		}
		why = api.ETAG
	}
	return result(seq, why, 0, 0)
}

func (m *model) free(seq int, b *box) api.Result {
	busy := slices.ContainsFunc(m.line, func(p parked) bool {
		return slices.ContainsFunc(p.cases, func(x api.Case) bool { return x.Handle == b.handle })
	})
	if !b.shut || len(b.values) > 0 || busy {
		return result(seq, api.EBUSY, 0, 0)
	}
	m.boxes = slices.DeleteFunc(m.boxes, func(x *box) bool { return x == b })
	return result(seq, api.OK, 0, 0)
}

func (m *model) close(seq int, b *box) api.Result {
	if b.shut {
		return result(seq, api.ECLOSED, 0, 0)
	}
	b.shut = true
	for {
		p, k, ok := m.meet(b.handle, 0)
		if !ok {
			return result(seq, api.OK, 0, 0)
		}
		m.done[p.thread] = result(p.seq, api.ECLOSED, k, 0)
	}
}

func (m *model) cancel(t, seq int, q api.Request) api.Result {
	for i, p := range m.line {
		if p.thread == q.Arg && p.seq == q.Value && p.thread != t {
			m.line = slices.Delete(m.line, i, i+1)
			m.done[p.thread] = result(p.seq, api.ECANCEL, 0, 0)
			return result(seq, api.OK, 0, 0)
		}
	}
	return result(seq, api.ELATE, 0, 0)
}

func (m *model) apply(t, seq int, q api.Request) {
	r := result(seq, api.EHANDLE, 0, 0)
	b := m.find(q.Arg)
	switch {
	case q.Kind == api.RSelect:
		r = m.choose(t, seq, q)
	case q.Kind == api.RMake:
		r = m.make(seq, q.Arg)
	case q.Kind == api.RCancel:
		r = m.cancel(t, seq, q)
	case b == nil:
	case q.Kind == api.RFree:
		r = m.free(seq, b)
	case q.Kind == api.RClose:
		r = m.close(seq, b)
	case q.Kind == api.RLen:
		r.Code, r.Value = api.OK, len(b.values)
	case q.Kind == api.RCap:
		r.Code, r.Value = api.OK, b.capacity
	}
	m.done[t] = r
}

// waits tells whether a thread stands in the line.
func (m *model) waits(t int) bool {
	return slices.ContainsFunc(m.line, func(p parked) bool { return p.thread == t })
}

// pick is a mixed number below n.
func pick(mixed *uint64, n int) int {
	*mixed = *mixed*6364136223846793005 + 1442695040888963407
	return int(*mixed >> 33 % uint64(n))
}

// request is a mixed call: of channels that there are, mostly.
func request(mixed *uint64, c api.Config, handles []int) api.Request {
	handle := func() int {
		if len(handles) == 0 || pick(mixed, 20) == 0 {
			return 8 + pick(mixed, 16)
		}
		return handles[pick(mixed, len(handles))]
	}
	switch n := pick(mixed, 24); {
	case n == 0:
		return on(api.RMake, pick(mixed, c.Cap+1))
	case n == 1:
		return cancel(pick(mixed, c.Threads), 1+pick(mixed, 400))
	case n <= 5:
		return on([]int{api.RFree, api.RClose, api.RLen, api.RCap}[n-2], handle())
	}
	q := api.Request{Kind: api.RSelect, Default: pick(mixed, 4) == 0}
	for range 1 + pick(mixed, 3) {
		q.Cases = append(q.Cases, api.Case{Dir: 1 + pick(mixed, 2), Handle: handle(), Value: pick(mixed, 1000)})
	}
	return q
}

// agree tells whether a hall is what the model is.
func (m *model) agree(h api.Hall) bool {
	for t, w := range h.Waits {
		if w.On != m.waits(t) {
			return false
		}
	}
	for _, b := range m.boxes {
		place, ok := hall.Find(h, b.handle)
		if !ok || !slices.Equal(h.Chans[place].Buf, b.values) || h.Chans[place].Closed != b.shut || h.Chans[place].Cap != b.capacity {
			return false
		}
	}
	return len(hall.Handles(h)) == len(m.boxes) && slices.Equal(h.Done, m.done)
}

// Over long mixed rows of calls each thread is told what a plain program would tell.
func TestModel_P12_2(t *testing.T) {
	seen := map[api.Errno]int{}
	for row := range 120 {
		mixed := uint64(row)
		c := api.Config{Kind: api.KHall, Threads: 2 + row%4, Chans: 1 + row%3, Cap: row % 4, Gens: 1 + row%5}
		for range pick(&mixed, c.Chans+1) {
			c.Start = append(c.Start, pick(&mixed, c.Cap+1))
		}
		h, m := hall.Start(c), newModel(c)
		seqs := make([]int, c.Threads)
		for range 400 {
			who := pick(&mixed, c.Threads)
			q := request(&mixed, c, hall.Handles(h))
			if q.Kind == api.RCancel && m.waits(q.Arg) && pick(&mixed, 4) > 0 {
				q.Value = seqs[q.Arg]
			}
			if m.waits(who) {
				continue
			}
			seqs[who]++
			before := text(h)
			g := hall.Apply(c, h, who, seqs[who], q)
			if text(h) != before {
				t.Fatalf("row %d: %+v changed", row, q)
			}
			m.apply(who, seqs[who], q)
			seen[m.done[who].Code]++
			if !m.agree(g) {
				t.Fatalf("row %d: %d calls %+v: %+v, not %+v", row, who, q, g, m)
			}
			h = g
		}
	}
	for _, e := range []api.Errno{api.OK, api.ENOMEM, api.ETAG, api.EHANDLE, api.ECLOSED, api.EBLOCK, api.ELATE, api.EBUSY, api.EPARK} {
		if seen[e] < 20 {
			t.Errorf("%v was told %d times alone", e, seen[e])
		}
	}
}

// A hall of 64 threads, and of eight channels, does what it does of few.
func TestMost_P12_2(t *testing.T) {
	c := api.Config{Kind: api.KHall, Threads: 64, Chans: 8, Cap: 8, Gens: 4095, Start: make([]int, 8)}
	h := hall.Start(c)
	for who := range 63 {
		h = hall.Apply(c, h, 62-who, 1, sel(recv(8+who%8), recv(8+(who+1)%8)))
	}
	for n := range 63 {
		h = hall.Apply(c, h, 63, n, sel(send(8+(n+1)%8, n)))
		if h.Done[63].Code != api.OK {
			t.Fatal(n, h.Done[63])
		}
	}
	told := make([]int, 63)
	for who, r := range h.Done[:63] {
		if r.Code != api.OK {
			t.Fatal(who, r)
		}
		told[r.Value]++
	}
	if slices.Contains(told, 0) || h.Ticket != 63 {
		t.Error(told, h.Ticket)
	}
}
