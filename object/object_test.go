package object_test

import (
	"fmt"
	"math"
	"slices"
	"testing"

	"stopgate/api"
	"stopgate/code"
	"stopgate/fifo"
	"stopgate/hall"
	"stopgate/lifo"
	"stopgate/object"
)

func shape(threads, chans, capacity int, start ...int) api.Config {
	return api.Config{Kind: api.KHall, Threads: threads, Chans: chans, Cap: capacity, Nodes: 1, Retire: 1, Tags: 1, Seqs: 9, Gens: 9, Start: start}
}

func cells(kind, threads, capacity int) api.Config {
	return api.Config{Kind: kind, Threads: threads, Cap: capacity, Nodes: 1, Retire: 1, Tags: 1, Seqs: 9}
}

func put(v int) api.Request { return api.Request{Kind: api.RPut, Value: v} }

func kind(k int) api.Request { return api.Request{Kind: k} }

func sel(cases ...api.Case) api.Request { return api.Request{Kind: api.RSelect, Cases: cases} }

func send(handle, value int) api.Case {
	return api.Case{Dir: api.Send, Handle: handle, Value: value}
}

func recv(handle int) api.Case { return api.Case{Dir: api.Recv, Handle: handle} }

func op(thread, seq, phase int, q api.Request) api.Op {
	return api.Op{Thread: thread, Seq: seq, Phase: phase, Req: q}
}

// text tells all fields of things, nil lists as empty ones: what has the same text is the same.
func text(l ...any) string { return fmt.Sprintf("%+v", l) }

// odd is numbers that hardly anything may be.
var odd = []int{math.MinInt, math.MinInt + 1, -1 << 32, -2, -1, 1 << 32, 1 << 53, math.MaxInt - 1, math.MaxInt}

// bad is shapes that may not be.
func bad() []api.Config {
	l := []api.Config{
		{}, shape(0, 1, 1), shape(65, 1, 1), shape(1, 0, 1), shape(1, 9, 1), shape(1, 1, 9), shape(1, 1, 1, 2), shape(1, 1, 1, 1, 1),
		cells(api.KFifo, 1, 0), cells(api.KFifo, 1, 17), cells(api.KLifo, 1, 17), cells(api.KLifo, 0, 1), cells(api.KFifo, 65, 1), cells(api.KHall, 1, 1), cells(4, 1, 1), cells(0, 1, 1),
	}
	for _, n := range odd {
		l = append(l, shape(n, 1, 1), shape(1, n, 1), shape(1, 1, n), shape(1, 1, 1, n), cells(api.KFifo, n, 1), cells(api.KLifo, 1, n), cells(n, 1, 1))
	}
	for _, c := range []api.Config{shape(1, 1, 1), cells(api.KFifo, 1, 1), cells(api.KLifo, 1, 1)} {
		c.Nodes = 0
		l = append(l, c)
	}
	return l
}

func TestStart_P14_1(t *testing.T) {
	for _, x := range []struct {
		c    api.Config
		want []uint64
	}{
		{cells(api.KFifo, 1, 2), []uint64{0, 0, 0, 0}},
		{cells(api.KLifo, 2, 3), []uint64{0, 0, 0, 0, 0, 0}},
		{cells(api.KFifo, 64, 16), make([]uint64, 81)},
		{shape(1, 1, 1), make([]uint64, 8)},
		{shape(1, 1, 1, 1), []uint64{0, 1 | 1<<12 | 1<<16, 0, 0, 0, 0, 0, 0}},
		{shape(1, 2, 1, 0), []uint64{0, 1 | 1<<16, 0, 0, 0, 0, 0, 0, 0, 0}},
		{shape(2, 2, 2, 2, 1), []uint64{0, 1 | 2<<12 | 1<<16, 0, 0, 1 | 1<<12 | 1<<16, 0, 0, 0, 0, 0, 0, 0, 0, 0, 0, 0, 0}},
	} {
		got, again := object.Start(x.c), object.Start(x.c)
		if !slices.Equal(got, x.want) {
			t.Errorf("%+v: %x", x.c, got)
		}
		spoil(got, 7)
		if !slices.Equal(again, x.want) {
			t.Errorf("%+v: two answers share memory", x.c)
		}
	}
	if got := object.Start(shape(64, 8, 8, slices.Repeat([]int{8}, 8)...)); len(got) != 393 || got[1] != 1|8<<12|1<<16 || got[64] != 1|8<<12|1<<16 {
		t.Errorf("%x", got)
	}
	for _, c := range bad() {
		if got := object.Start(c); len(got) != 0 {
			t.Errorf("%+v: %x", c, got)
		}
	}
}

func TestDone_P14_1(t *testing.T) {
	counted := make([]uint64, 400)
	for i := range counted {
		counted[i] = uint64(1000 + i)
	}
	for _, x := range []struct {
		c           api.Config
		state, size int
	}{
		{cells(api.KFifo, 1, 2), 3, 4},
		{cells(api.KLifo, 3, 16), 17, 20},
		{shape(1, 1, 1), 7, 8},
		{shape(2, 3, 4, 1), 24, 26},
		{shape(64, 8, 8), 329, 393},
	} {
		for _, n := range []int{0, 1, x.state - 1, x.state, x.state + 1, x.size - 1, x.size, x.size + 1, 400} {
			for thread := -2; thread < 70; thread++ {
				want := uint64(0)
				if thread >= 0 && thread < x.c.Threads && x.state+thread < n {
					want = uint64(1000 + x.state + thread)
				}
				if got := object.Done(x.c, counted[:n], thread); got != want {
					t.Errorf("%+v: Done of %d words, thread %d: %d, not %d", x.c, n, thread, got, want)
				}
			}
		}
		for _, thread := range odd {
			if got := object.Done(x.c, counted, thread); got != 0 {
				t.Errorf("%+v: Done of thread %d: %d", x.c, thread, got)
			}
		}
		if object.Done(x.c, nil, 0) != 0 {
			t.Errorf("%+v: Done of no words", x.c)
		}
	}
	for _, c := range bad() {
		for _, thread := range append([]int{0, 1, 63}, odd...) {
			if got := object.Done(c, counted, thread); got != 0 {
				t.Errorf("%+v: Done of thread %d: %d", c, thread, got)
			}
		}
	}
}

func TestExample_P14_2(t *testing.T) {
	c := cells(api.KFifo, 1, 2)
	if got := object.Apply(c, object.Start(c), 0, 1, put(7)); !slices.Equal(got, []uint64{1, 7, 0, 1 << 44}) {
		t.Errorf("%x", got)
	}
}

func TestApply_P14_2(t *testing.T) {
	queue, stack := cells(api.KFifo, 2, 2), cells(api.KLifo, 2, 2)
	one := shape(2, 1, 1, 1)
	full := []uint64{2, 7, 8, 5, 6}
	empty := object.Start(one)
	const there = 1 | 1<<12 | 1<<16
	for _, x := range []struct {
		what   string
		c      api.Config
		l      []uint64
		thread int
		seq    int
		q      api.Request
		want   []uint64
	}{
		{"a queue's first", queue, full, 1, 3, kind(api.RTake), []uint64{1, 8, 0, 5, 3<<44 | 7}},
		{"a stack's last", stack, full, 1, 3, kind(api.RTake), []uint64{1, 7, 0, 5, 3<<44 | 8}},
		{"a full queue", queue, full, 0, 4, put(9), []uint64{2, 7, 8, 4<<44 | 10<<32, 6}},
		{"a full stack", stack, full, 0, 4, put(9), []uint64{2, 7, 8, 4<<44 | 10<<32, 6}},
		{"how many", queue, full, 0, 4, kind(api.RLen), []uint64{2, 7, 8, 4<<44 | 2, 6}},
		{"how much room", stack, full, 0, 4, kind(api.RCap), []uint64{2, 7, 8, 4<<44 | 2, 6}},
		{"what a queue does not do", queue, full, 0, 4, sel(recv(8)), []uint64{2, 7, 8, 4<<44 | 1<<32, 6}},
		{"what a stack does not do", stack, full, 1, 4, kind(api.RClose), []uint64{2, 7, 8, 5, 4<<44 | 1<<32}},
		{"the number 0", queue, full, 0, 0, kind(api.RLen), []uint64{2, 7, 8, 2, 6}},
		{"the last number, beyond Seqs", queue, full, 0, 1<<20 - 1, kind(api.RLen), []uint64{2, 7, 8, (1<<20-1)<<44 | 2, 6}},
		{"the greatest value", stack, make([]uint64, 5), 0, 1, put(1<<32 - 1), []uint64{1, 1<<32 - 1, 0, 1 << 44, 0}},
		{"a send", one, empty, 1, 1, sel(send(8, 5)), []uint64{0, there | 1<<20, 5, 0, 0, 0, 0, 0, 0, 0, 0, 0, 1 << 44}},
		{"a receive that waits", one, empty, 1, 2, sel(recv(8)), []uint64{1, there, 0, 0, 0, 0, 0, 1 | 1<<1 | 2<<4, 2 | 8<<8, 0, 0, 0, 2<<44 | 14<<32}},
		{"what a hall does not do", one, empty, 0, 2, put(5), []uint64{0, there, 0, 0, 0, 0, 0, 0, 0, 0, 0, 2<<44 | 1<<32, 0}},
	} {
		l := append(slices.Clone(x.l), 77)
		got, again := object.Apply(x.c, l[:len(x.l)], x.thread, x.seq, x.q), object.Apply(x.c, l[:len(x.l)], x.thread, x.seq, x.q)
		if !slices.Equal(got, x.want) {
			t.Errorf("%s: %x, not %x", x.what, got, x.want)
		}
		spoil(got, 9)
		if !slices.Equal(l, append(slices.Clone(x.l), 77)) || !slices.Equal(again, x.want) {
			t.Errorf("%s: memory is shared", x.what)
		}
	}
}

// What a call by which nothing changes answers: the words as they are, in new memory.
func stays(t *testing.T, what string, c api.Config, l []uint64, thread, seq int, q api.Request) {
	t.Helper()
	for _, f := range []func() []uint64{
		func() []uint64 { return object.Apply(c, l, thread, seq, q) },
		func() []uint64 { return object.All(c, l, []api.Op{op(thread, seq, 0, q)}) },
	} {
		before := slices.Clone(l[:cap(l)])
		got, again := f(), f()
		if !slices.Equal(got, l) {
			t.Errorf("%s: %x became %x", what, l, got)
		}
		spoil(got, 9)
		if !slices.Equal(l[:cap(l)], before) || !slices.Equal(again, l) {
			t.Errorf("%s: memory is shared", what)
		}
	}
}

func TestApplyAsItIs_P14_2(t *testing.T) {
	for _, c := range []api.Config{cells(api.KFifo, 2, 2), cells(api.KLifo, 2, 2), shape(2, 2, 2, 1)} {
		l := append(object.Start(c), 77)
		good, all := l[:len(l)-1], l
		for _, thread := range append([]int{2, 3, 64}, odd...) {
			stays(t, text("thread", thread), c, good, thread, 1, kind(api.RTake))
		}
		for _, seq := range append([]int{1 << 20, 1<<20 + 1}, odd...) {
			stays(t, text("seq", seq), c, good, 0, seq, kind(api.RTake))
		}
		for _, q := range []api.Request{
			{}, kind(-1), kind(10), kind(257), kind(math.MaxInt), kind(math.MinInt),
			put(-1), put(1 << 32), put(math.MaxInt), put(math.MinInt),
			{Kind: api.RClose, Arg: -1}, {Kind: api.RClose, Arg: 65536}, {Kind: api.RTake, Arg: 65536}, {Kind: api.RMake, Arg: math.MinInt},
			sel(recv(8), recv(8), recv(8), recv(8)), sel(api.Case{}), sel(recv(8), api.Case{Dir: 3, Handle: 8}), sel(recv(-1)), sel(recv(65536)), sel(send(8, -1)), sel(send(8, 1<<32)),
		} {
			stays(t, text(q), c, good, 0, 1, q)
		}
		for _, words := range [][]uint64{nil, {}, good[:1], good[:len(good)-1], all, append(slices.Clone(good), good...)} {
			stays(t, "so many words", c, words, 0, 1, kind(api.RLen))
		}
		for i := range len(good) - 2 {
			words := slices.Clone(good)
			words[i] = math.MaxUint64
			stays(t, text("word", i), c, words, 0, 1, kind(api.RLen))
		}
	}
	for _, c := range bad() {
		for _, words := range [][]uint64{nil, {}, {0}, {0, 0, 0}, make([]uint64, 8), make([]uint64, 81)} {
			stays(t, text(c), c, words, 0, 1, kind(api.RTake))
		}
	}
	// Words of one kind are not another one's, but where they are just so.
	stays(t, "a hall's words", cells(api.KFifo, 2, 2), object.Start(shape(2, 2, 2, 1)), 0, 1, put(5))
	stays(t, "a queue's words", shape(2, 2, 2, 1), object.Start(cells(api.KFifo, 2, 2)), 0, 1, sel(recv(8)))
}

// A call that pack can have, and that the hall itself can't do, is told EARG, with its number.
func TestApplyToldEARG_P14_2(t *testing.T) {
	c := shape(1, 1, 1, 1)
	for _, q := range []api.Request{put(5), kind(api.RTake), sel(), {Kind: api.RMake, Arg: 2}} {
		l := object.Apply(c, object.Start(c), 0, 1, q)
		if object.Done(c, l, 0) != 1<<44|uint64(api.EARG)<<32 {
			t.Errorf("%+v: %x", q, l)
		}
	}
}

// pick is a mixed number below n.
func pick(mixed *uint64, n int) int {
	*mixed = *mixed*6364136223846793005 + 1442695040888963407
	return int(*mixed >> 33 % uint64(n))
}

// request is a mixed call that may be, of any kind.
func request(mixed *uint64, threads int) api.Request {
	handle := func() int { return 8 + 8*pick(mixed, 2) + pick(mixed, 3) }
	switch n := pick(mixed, 16); {
	case n == 0:
		return api.Request{Kind: api.RMake, Arg: pick(mixed, 4)}
	case n == 1:
		return api.Request{Kind: api.RCancel, Arg: pick(mixed, threads), Value: pick(mixed, 200)}
	case n <= 5:
		return api.Request{Kind: []int{api.RFree, api.RClose, api.RLen, api.RCap}[n-2], Arg: handle()}
	case n <= 10:
		return api.Request{Kind: []int{api.RPut, api.RTake}[n%2], Value: pick(mixed, 100), Default: pick(mixed, 2) == 0}
	}
	q := api.Request{Kind: api.RSelect, Default: pick(mixed, 4) == 0}
	for range pick(mixed, 4) {
		q.Cases = append(q.Cases, api.Case{Dir: 1 + pick(mixed, 2), Handle: handle(), Value: pick(mixed, 1000)})
	}
	return q
}

// Over long mixed rows of calls the words are always those of what the calls make of the thing itself.
func TestMixed_P14_2(t *testing.T) {
	for row := range 60 {
		mixed := uint64(row)
		threads := 1 + row%4
		halls := shape(threads, 1+row%3, row%4, make([]int, row%2)...)
		h := hall.Start(halls)
		queue, stack := cells(api.KFifo, threads, 1+row%5), cells(api.KLifo, threads, 1+row%5)
		f, l := fifo.New(queue.Cap, threads), lifo.New(stack.Cap, threads)
		words := [][]uint64{object.Start(halls), object.Start(queue), object.Start(stack)}
		for seq := range 200 {
			who, q := pick(&mixed, threads), request(&mixed, threads)
			h, f, l = hall.Apply(halls, h, who, seq, q), fifo.Apply(f, who, seq, q), lifo.Apply(l, who, seq, q)
			for i, c := range []api.Config{halls, queue, stack} {
				words[i] = object.Apply(c, words[i], who, seq, q)
				if d := [][]uint64{code.Put(halls, h), code.PutCells(queue, f), code.PutCells(stack, l)}[i]; len(d) == 0 || !slices.Equal(words[i], d) {
					t.Fatalf("row %d, call %d, kind %d: %x, not %x", row, seq, c.Kind, words[i], d)
				}
			}
		}
	}
}

func TestAll_P14_2(t *testing.T) {
	c := cells(api.KFifo, 2, 3)
	start := object.Start(c)
	for _, x := range []struct {
		what string
		ops  []api.Op
		want []uint64
	}{
		{"none", nil, []uint64{0, 0, 0, 0, 0, 0}},
		{"no more", []api.Op{}, []uint64{0, 0, 0, 0, 0, 0}},
		{"one", []api.Op{op(1, 4, 9, put(7))}, []uint64{1, 7, 0, 0, 0, 4 << 44}},
		{"as they stand, whatever their phases", []api.Op{op(1, 1, 9, put(7)), op(0, 1, 3, put(8)), op(1, 2, 0, kind(api.RTake))}, []uint64{1, 8, 0, 0, 1 << 44, 2<<44 | 7}},
		{"one of them may not be", []api.Op{op(0, 1, 0, put(7)), op(2, 1, 0, put(8)), op(1, -1, 0, put(8)), op(1, 1, 0, put(-1)), op(1, 3, 0, put(9))}, []uint64{2, 7, 9, 0, 1 << 44, 3 << 44}},
		{"any phases", []api.Op{op(0, 1, math.MinInt, put(7)), op(0, 2, math.MaxInt, put(8))}, []uint64{2, 7, 8, 0, 2 << 44, 0}},
		{"one number twice", []api.Op{op(0, 1, 0, put(7)), op(0, 1, 0, put(8))}, []uint64{2, 7, 8, 0, 1 << 44, 0}},
		{"more than there is room", slices.Repeat([]api.Op{op(0, 1, 0, put(7))}, 5), []uint64{3, 7, 7, 7, 1<<44 | 10<<32, 0}},
	} {
		got, again := object.All(c, start, x.ops), object.All(c, start, x.ops)
		if !slices.Equal(got, x.want) {
			t.Errorf("%s: %x, not %x", x.what, got, x.want)
		}
		spoil(got, 9)
		if !slices.Equal(start, make([]uint64, 6)) || !slices.Equal(again, x.want) {
			t.Errorf("%s: memory is shared", x.what)
		}
	}
	for _, c := range bad() {
		l := []uint64{1, 2, 3}
		if got := object.All(c, l, []api.Op{op(0, 1, 0, put(7))}); !slices.Equal(got, l) {
			t.Errorf("%+v: %x", c, got)
		}
	}
}

// Two threads meet in a channel without room: both are told, as if one alone had called.
func TestAllOfHall_P14_2(t *testing.T) {
	c := shape(2, 1, 0, 0)
	l := object.All(c, object.Start(c), []api.Op{op(0, 1, 5, sel(recv(8))), op(1, 1, 2, sel(send(8, 6)))})
	if object.Done(c, l, 0) != 1<<44|6 || object.Done(c, l, 1) != 1<<44 {
		t.Errorf("%x", l)
	}
	h, ok := code.Read(c, l)
	if !ok || h.Waits[0].On || h.Ticket != 1 {
		t.Errorf("%+v", h)
	}
}

func TestOrder_P14_3(t *testing.T) {
	for _, x := range []struct {
		what string
		ops  []api.Op
		want []int // the Seqs, behind
	}{
		{"none", nil, nil},
		{"empty", []api.Op{}, nil},
		{"one", []api.Op{op(5, 1, 9, put(1))}, []int{1}},
		{"by phases", []api.Op{op(0, 1, 3, put(1)), op(1, 2, 2, put(1)), op(2, 3, 1, put(1))}, []int{3, 2, 1}},
		{"by threads", []api.Op{op(2, 1, 3, put(1)), op(1, 2, 3, put(1)), op(0, 3, 3, put(1))}, []int{3, 2, 1}},
		{"phases ahead of threads", []api.Op{op(0, 1, 2, put(1)), op(1, 2, 1, put(1)), op(0, 3, 3, put(1)), op(1, 4, 2, put(1))}, []int{2, 1, 4, 3}},
		{"not by numbers", []api.Op{op(0, 9, 2, put(1)), op(0, 5, 2, put(1)), op(0, 7, 1, put(1)), op(0, 6, 2, put(1))}, []int{7, 9, 5, 6}},
		{"any numbers", []api.Op{
			op(math.MaxInt, 1, 0, put(1)), op(math.MinInt, 2, 0, put(1)), op(0, 3, math.MaxInt, put(1)), op(0, 4, math.MinInt, put(1)),
			op(-1, 5, 0, put(1)), op(0, 6, -1, put(1)), op(0, 7, 0, put(1)), op(1, 8, 1<<40, put(1)), op(1, 9, -1<<40, put(1)),
		}, []int{4, 9, 6, 2, 5, 7, 1, 8, 3}},
	} {
		before := text(x.ops)
		var got []int
		for _, o := range object.Order(x.ops) {
			got = append(got, o.Seq)
		}
		if !slices.Equal(got, x.want) || text(x.ops) != before {
			t.Errorf("%s: %v, not %v", x.what, got, x.want)
		}
	}
}

// Many calls of one phase and thread stay as they stand, and keep all that they have.
func TestOrderKeeps_P14_3(t *testing.T) {
	var ops []api.Op
	mixed := uint64(4)
	for i := range 600 {
		ops = append(ops, op(pick(&mixed, 3), i, pick(&mixed, 3), sel(send(i, pick(&mixed, 100)), recv(i))))
	}
	var want []api.Op
	for phase := range 3 {
		for thread := range 3 {
			for _, o := range ops {
				if o.Phase == phase && o.Thread == thread {
					want = append(want, o)
				}
			}
		}
	}
	got := object.Order(ops)
	if text(got) != text(want) {
		t.Error(got)
	}
	again := object.Order(ops)
	before := text(ops)
	spoil(got, api.Op{Seq: -1})
	if text(ops) != before || text(again) != text(want) {
		t.Error("memory is shared")
	}
}

// spoil writes into all of a list, the room behind its end included.
func spoil[T any](l []T, with T) {
	l = l[:cap(l)]
	for i := range l {
		l[i] = with
	}
}

// anyHall is a mixed hall that fits, whether calls lead to it or not.
func anyHall(mixed *uint64, c api.Config) api.Hall {
	h := api.Hall{Ticket: []int{0, 5, api.MaxValue}[pick(mixed, 3)], Chans: make([]api.Chan, c.Chans), Waits: make([]api.Wait, c.Threads), Done: make([]api.Result, c.Threads)}
	for i := range h.Chans {
		x := api.Chan{Gen: []int{0, 1, 2, api.MaxGens}[pick(mixed, 4)], Used: pick(mixed, 5) > 0}
		if x.Used {
			x.Cap, x.Closed = pick(mixed, c.Cap+1), pick(mixed, 3) == 0
			x.Buf = make([]int, pick(mixed, x.Cap+1))
		}
		h.Chans[i] = x
	}
	for t := range h.Waits {
		if pick(mixed, 2) == 0 {
			continue
		}
		h.Waits[t] = api.Wait{On: true, Ticket: pick(mixed, 9), Seq: pick(mixed, 3)}
		for range 1 + pick(mixed, 3) {
			h.Waits[t].Cases = append(h.Waits[t].Cases, api.Case{Dir: 1 + pick(mixed, 2), Handle: 8 + pick(mixed, 16), Value: pick(mixed, 9)})
		}
	}
	return h
}

// Also behind a hall that no calls lead to there is one that fits, and its words.
func TestAnyHall_P14_2(t *testing.T) {
	mixed := uint64(6)
	for range 20000 {
		c := shape(1+pick(&mixed, 3), 1+pick(&mixed, 3), pick(&mixed, 3))
		c.Gens = []int{1, 2, api.MaxGens}[pick(&mixed, 3)]
		h := anyHall(&mixed, c)
		l := code.Put(c, h)
		who, q := pick(&mixed, c.Threads), request(&mixed, c.Threads)
		want := hall.Apply(c, h, who, 2, q)
		got, ok := code.Read(c, object.Apply(c, l, who, 2, q))
		if len(l) == 0 || !ok || !hall.Same(got, want) {
			t.Fatalf("%+v, %d calls %+v: %+v, not %+v", h, who, q, got, want)
		}
	}
}
