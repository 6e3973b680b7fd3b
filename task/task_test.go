package task_test

import (
	"fmt"
	"math"
	"slices"
	"testing"

	"stopgate/api"
	"stopgate/layout"
	"stopgate/mem"
	"stopgate/pack"
	"stopgate/task"
)

// queue is a shape of two threads: their numbers lie at 3 and 4, their calls from 5 and 10 on, their guards at 15 and 16, their epochs at 17 and 18, their mails at 19 and 20, node i from 21 + 5i on.
var queue = cells(api.KFifo, 2, 1, 3)

func cells(kind, threads, capacity, nodes int) api.Config {
	return api.Config{Kind: kind, Threads: threads, Cap: capacity, Nodes: nodes, Retire: 2, Patience: 1, Tags: 9, Seqs: 9}
}

func hall(threads, capacity, nodes int, start ...int) api.Config {
	return api.Config{Kind: api.KHall, Threads: threads, Chans: 2, Cap: capacity, Nodes: nodes, Retire: 2, Patience: 1, Tags: api.MaxTags, Seqs: api.MaxSeqs, Gens: 9, Start: start}
}

func put(v int) api.Request { return api.Request{Kind: api.RPut, Value: v} }

func kind(k int) api.Request { return api.Request{Kind: k} }

func sel(cases ...api.Case) api.Request { return api.Request{Kind: api.RSelect, Cases: cases} }

func send(handle, value int) api.Case {
	return api.Case{Dir: api.Send, Handle: handle, Value: value}
}

func recv(handle int) api.Case { return api.Case{Dir: api.Recv, Handle: handle} }

// text tells all fields of things, nil lists as empty ones: what has the same text is the same.
func text(l ...any) string { return fmt.Sprintf("%+v", l) }

// odd is numbers that hardly anything may be.
var odd = []int{math.MinInt, math.MinInt + 1, -1 << 32, -2, -1, 1 << 32, 1 << 53, math.MaxInt - 1, math.MaxInt}

// full is a thread that has something in each field.
func full() api.Task {
	return api.Task{
		Pc: 77, Seq: 4, Req: put(7), Round: 1, I: 1, J: 2, Epoch: 5, Base: api.Ref{Index: 2, Tag: 3},
		Buf: []uint64{1, 9, 3 << 44, 2 << 44}, Next: []uint64{0, 0, 4<<44 | 9, 2 << 44}, Word: 99, Args: []uint64{6},
		Found: []api.Op{{Thread: 0, Seq: 4, Phase: 2, Req: kind(api.RTake)}}, Seen: []uint64{8},
		Pool: api.Pool{Own: api.Ref{Index: 4, Tag: 2}, Free: []api.Slot{{Index: 5, Tag: 1}}, Old: []api.Old{{Ref: api.Ref{Index: 6, Tag: 1}, Stamp: 3}}},
		Res:  api.Result{Seq: 3, Value: 6},
	}
}

// at lets a thread stand somewhere, and be otherwise too.
func at(pc int, sets ...func(x *api.Task)) func(x *api.Task) {
	return func(x *api.Task) {
		x.Pc = pc
		for _, set := range sets {
			set(x)
		}
	}
}

// Changes of a thread.
func i(n int) func(x *api.Task)         { return func(x *api.Task) { x.I = n } }
func j(n int) func(x *api.Task)         { return func(x *api.Task) { x.J = n } }
func try(n int) func(x *api.Task)       { return func(x *api.Task) { x.Try = n } }
func round(n int) func(x *api.Task)     { return func(x *api.Task) { x.Round = n } }
func word(w uint64) func(x *api.Task)   { return func(x *api.Task) { x.Word = w } }
func args(l ...uint64) func(*api.Task)  { return func(x *api.Task) { x.Args = l } }
func buf(l ...uint64) func(*api.Task)   { return func(x *api.Task) { x.Buf = l } }
func next(l ...uint64) func(*api.Task)  { return func(x *api.Task) { x.Next = l } }
func seen(l ...uint64) func(*api.Task)  { return func(x *api.Task) { x.Seen = l } }
func found(l ...api.Op) func(*api.Task) { return func(x *api.Task) { x.Found = l } }
func res(r api.Result) func(*api.Task)  { return func(x *api.Task) { x.Res = r } }
func pool(p api.Pool) func(*api.Task)   { return func(x *api.Task) { x.Pool = p } }
func epoch(n int) func(*api.Task)       { return func(x *api.Task) { x.Epoch = n } }
func base(index, tag int) func(*api.Task) {
	return func(x *api.Task) { x.Base = api.Ref{Index: index, Tag: tag} }
}
func all(x *api.Task)     { x.All = true }
func notAll(x *api.Task)  { x.All = false }
func slow(x *api.Task)    { x.Slow = true }
func won(x *api.Task)     { x.Won = true }
func waits(x *api.Task)   { x.Waits = true }
func scans(x *api.Task)   { x.Scans = true }
func noScans(x *api.Task) { x.Scans = false }

// old is nodes that are put away, each with its stamp.
func old(l ...[3]int) []api.Old {
	var all []api.Old
	for _, o := range l {
		all = append(all, api.Old{Ref: api.Ref{Index: o[0], Tag: o[1]}, Stamp: o[2]})
	}
	return all
}

// Accesses of thread 1.
func load(addr int, w uint64) api.Access {
	return api.Access{Thread: 1, Kind: api.Load, Addr: addr, Old: w, Now: w, Ok: true}
}

func store(addr int, was, now uint64) api.Access {
	return api.Access{Thread: 1, Kind: api.Store, Addr: addr, Old: was, Now: now, Ok: true}
}

func swap(addr int, want, now uint64) api.Access {
	return api.Access{Thread: 1, Kind: api.Swap, Addr: addr, Want: want, Old: want, Now: now, Ok: true}
}

func inVain(addr int, want, is uint64) api.Access {
	return api.Access{Thread: 1, Kind: api.Swap, Addr: addr, Want: want, Old: is, Now: is}
}

// row is a step of thread 1: what the words are ahead of it (but those of Setup), how the thread is (but full), what it does, what is then of it, and what it says.
type row struct {
	what   string
	words  map[int]uint64
	from   func(x *api.Task)
	access api.Access
	to     func(x *api.Task)
	out    api.Out
}

// words is the memory of a machine with words at addresses.
func words(t *testing.T, c api.Config, l map[int]uint64) *mem.Mem {
	t.Helper()
	m, e := layout.Setup(c)
	if e != api.OK {
		t.Fatal(e)
	}
	for addr, w := range l {
		m.Poke(addr, w)
	}
	m.Keep(true)
	return m
}

// steps does each row's step.
func steps(t *testing.T, c api.Config, rows []row) {
	t.Helper()
	for _, r := range rows {
		m := words(t, c, r.words)
		x := full()
		r.from(&x)
		before, was := text(x), m.All()
		got, out := task.Step(c, m, 1, x)
		if text(x) != before {
			t.Errorf("%s: the thread was changed: %+v", r.what, x)
		}
		want := x
		if r.to(&want); text(got) != text(want) {
			t.Errorf("%s: the thread is\n%+v, not\n%+v", r.what, got, want)
		}
		if text(out) != text(r.out) {
			t.Errorf("%s: out is %+v, not %+v", r.what, out, r.out)
		}
		if log := m.Log(); text(log) != text([]api.Access{r.access}) {
			t.Errorf("%s: accesses are %+v, not %+v", r.what, log, r.access)
		}
		if was[r.access.Addr] = r.access.Now; !slices.Equal(m.All(), was) {
			t.Errorf("%s: other words have changed", r.what)
		}
	}
}

func TestNew_P16_1(t *testing.T) {
	for _, c := range []api.Config{queue, hall(3, 1, 2), cells(api.KLifo, 64, 16, 64)} {
		for n := range c.Threads {
			var free []api.Slot
			for k := range c.Nodes {
				free = append(free, api.Slot{Index: 1 + n*c.Nodes + k})
			}
			if got := task.New(c, n); text(got) != text(api.Task{Pool: api.Pool{Free: free}}) {
				t.Errorf("%+v, %d: %+v", c, n, got)
			}
		}
		for _, n := range append([]int{c.Threads}, odd...) {
			if got := task.New(c, n); text(got) != text(api.Task{}) {
				t.Errorf("%+v, %d: %+v", c, n, got)
			}
		}
	}
	huge := hall(64, 8, 64)
	huge.Chans = 8
	for _, c := range []api.Config{{}, cells(api.KFifo, 2, 0, 3), huge} {
		if got := task.New(c, 0); text(got) != text(api.Task{}) {
			t.Errorf("%+v: %+v", c, got)
		}
	}
}

func TestBegin_P16_1(t *testing.T) {
	idle := full()
	idle.Pc = api.PIdle
	for _, q := range []api.Request{put(0), put(1<<32 - 1), kind(api.RTake), sel(), sel(recv(9), send(8, 5), recv(65535)), {Kind: api.RCancel, Arg: 65535, Value: 7, Default: true}} {
		for _, seq := range []int{0, 4, 8, -1, math.MinInt} {
			idle.Seq = seq
			before := text(idle)
			got, e := task.Begin(queue, idle, q)
			want := api.Task{Pc: api.PGetEpoch, Seq: seq + 1, Req: q, Round: 1, Pool: idle.Pool}
			if e != api.OK || text(got) != text(want) || text(idle) != before {
				t.Errorf("%+v, %d: %+v, %v", q, seq, got, e)
			}
		}
	}
}

func TestBeginRefuses_P16_1(t *testing.T) {
	bad := []api.Request{{}, kind(-1), kind(10), put(-1), put(1 << 32), {Kind: api.RClose, Arg: 65536}, sel(recv(8), recv(8), recv(8), recv(8)), sel(api.Case{}), sel(recv(-1)), sel(send(8, 1<<32))}
	for _, x := range []struct {
		what string
		pcs  []int
		seqs []int
		qs   []api.Request
		want api.Errno
	}{
		{"in a call", append([]int{1, 2, 7, 28, 29, 38, 39}, odd...), []int{0, 8}, []api.Request{put(7)}, api.EBUSY},
		{"in a call, ahead of all", []int{1, 29}, []int{9, math.MaxInt}, bad, api.EBUSY},
		{"no call", []int{0}, []int{0, 8}, bad, api.EARG},
		{"no call, ahead of the numbers' end", []int{0}, []int{9, math.MaxInt}, bad, api.EARG},
		{"the numbers' end", []int{0}, []int{9, 10, 1 << 20, math.MaxInt}, []api.Request{put(7), sel()}, api.ETAG},
	} {
		for _, pc := range x.pcs {
			for _, seq := range x.seqs {
				for _, q := range x.qs {
					k := full()
					k.Pc, k.Seq = pc, seq
					got, e := task.Begin(queue, k, q)
					if e != x.want || text(got) != text(k) {
						t.Errorf("%s: %d, %d, %+v: %+v, %v", x.what, pc, seq, q, got, e)
					}
				}
			}
		}
	}
}

// How many calls a thread may do is the shape's, whatever else it is.
func TestBeginSeqs_P16_1(t *testing.T) {
	for _, seqs := range append([]int{0, 1, 5, 1<<20 - 1}, odd...) {
		for _, seq := range append([]int{0, 1, 4, 5, 1<<20 - 2, 1<<20 - 1}, odd...) {
			got, e := task.Begin(api.Config{Seqs: seqs}, api.Task{Seq: seq}, put(7))
			if seq >= seqs && (e != api.ETAG || got.Seq != seq || got.Pc != api.PIdle) || seq < seqs && (e != api.OK || got.Seq != seq+1) {
				t.Errorf("%d of %d: %+v, %v", seq, seqs, got, e)
			}
		}
	}
}

// The words of thread 1's call: to put 7, with a phase.
func call(phase uint64) []uint64 { return []uint64{8 | 7<<32, 0, 0, 0, phase} }

func TestEnter_P16_2(t *testing.T) {
	steps(t, queue, []row{
		{"the epoch", map[int]uint64{1: 6}, at(1), load(1, 6), at(2, epoch(6)), api.Out{}},
		{"its own epoch", map[int]uint64{18: 2}, at(2), store(18, 2, 11), at(3), api.Out{}},
		{"the root", map[int]uint64{0: 5<<16 + 4}, at(3), load(0, 5<<16+4), at(4, base(3, 5)), api.Out{}},
		{"no root", map[int]uint64{0: 7}, at(3), load(0, 7), at(4, base(0, 0)), api.Out{}},
		{"a guard", nil, at(4), store(16, 0, 3<<16+3), at(5), api.Out{}},
		{"no guard", map[int]uint64{16: 9}, at(4, base(0, 0)), store(16, 9, 0), at(5, base(0, 0)), api.Out{}},
		{"the root still", map[int]uint64{0: 3<<16 + 3}, at(5), load(0, 3<<16+3), at(6), api.Out{}},
		{"no root still", map[int]uint64{0: 0}, at(5, base(0, 0)), load(0, 0), at(6), api.Out{}},
		{"another root", map[int]uint64{0: 4<<16 + 3}, at(5), load(0, 4<<16+3), at(16, round(2), found()), api.Out{}},
		{"the tag", map[int]uint64{31: 3}, at(6), load(31, 3), at(7, i(0), buf()), api.Out{}},
		{"another tag", map[int]uint64{31: 4}, at(6), load(31, 4), at(16, round(2), found()), api.Out{}},
		{"a word of the record", map[int]uint64{34: 8}, at(7, i(2), buf(5, 6)), load(34, 8), at(7, i(3), buf(5, 6, 8)), api.Out{}},
		{"the last word", map[int]uint64{35: 8}, at(7, i(3), buf(5, 6, 7)), load(35, 8), at(8, i(0), buf(5, 6, 7, 8), found()), api.Out{}},
		{"the last word of who announced", map[int]uint64{35: 3<<44 | 8}, at(7, i(3), buf(5, 6, 4<<44), slow), load(35, 3<<44|8), at(8, i(0), buf(5, 6, 4<<44, 3<<44|8), found()), api.Out{}},
		{"it is done", map[int]uint64{35: 4<<44 | 8}, at(7, i(3), buf(5, 6, 7), slow), load(35, 4<<44|8), at(20, i(0), buf(5, 6, 7, 4<<44|8), found(), res(api.Result{Seq: 4, Value: 8})), api.Out{}},
		{"it is done, and waits", map[int]uint64{35: 4<<44 | 14<<32}, at(7, i(3), buf(5, 6, 7), slow), load(35, 4<<44|14<<32), at(20, i(0), buf(5, 6, 7, 4<<44|14<<32), found(), res(api.Result{Seq: 4, Code: api.EPARK})), api.Out{}},
		{"it is as if done, and was not announced", map[int]uint64{35: 4 << 44}, at(7, i(3), buf(5, 6, 7)), load(35, 4<<44), at(8, i(0), buf(5, 6, 7, 4<<44), found()), api.Out{}},
	})
}

func TestHelp_P16_2_P16_3(t *testing.T) {
	wants := api.Op{Thread: 0, Seq: 4, Phase: 6, Req: put(7)}
	steps(t, queue, []row{
		{"a new call", map[int]uint64{3: 4}, at(8, i(0)), load(3, 4), at(9, word(4), j(0), args()), api.Out{}},
		{"a new call of the last thread", map[int]uint64{4: 3}, at(8), load(4, 3), at(9, word(3), j(0), args()), api.Out{}},
		{"an old call", map[int]uint64{3: 3}, at(8, i(0)), load(3, 3), at(8, word(3), i(1)), api.Out{}},
		{"an older call", map[int]uint64{3: 2}, at(8, i(0)), load(3, 2), at(8, word(2), i(1)), api.Out{}},
		{"an old call of the last thread", map[int]uint64{4: 2}, at(8, try(1)), load(4, 2), at(11, word(2), i(0), try(0)), api.Out{}},
		{"the last number", map[int]uint64{3: 1<<20 - 1}, at(8, i(0)), load(3, 1<<20-1), at(9, word(1<<20-1), j(0), args()), api.Out{}},
		{"beyond it", map[int]uint64{3: 1 << 20}, at(8, i(0)), load(3, 1<<20), at(8, word(1<<20), i(1)), api.Out{}},
		{"far beyond it", map[int]uint64{3: math.MaxUint64}, at(8, i(0)), load(3, math.MaxUint64), at(8, word(math.MaxUint64), i(1)), api.Out{}},
		{"a word of the call", map[int]uint64{12: 5}, at(9, args(3, 4)), load(12, 5), at(9, args(3, 4, 5), j(3)), api.Out{}},
		{"a word of thread 0's", map[int]uint64{5: 5}, at(9, i(0), j(0), args()), load(5, 5), at(9, i(0), j(1), args(5)), api.Out{}},
		{"the last word", map[int]uint64{9: 5}, at(9, i(0), j(4), args(1, 2, 3, 4)), load(9, 5), at(10, i(0), j(5), args(1, 2, 3, 4, 5)), api.Out{}},
		{"the same call", map[int]uint64{3: 4}, at(10, i(0), word(4), found(), args(call(6)...)), load(3, 4), at(8, i(1), found(wants)), api.Out{}},
		{"the same call of the last thread", map[int]uint64{4: 4}, at(10, try(1), word(4), args(call(6)...)), load(4, 4),
			at(11, i(0), try(0), found(full().Found[0], api.Op{Thread: 1, Seq: 4, Phase: 6, Req: put(7)})), api.Out{}},
		{"another call by now", map[int]uint64{3: 5}, at(10, i(0), word(4), args(call(6)...)), load(3, 5), at(8, i(1)), api.Out{}},
		{"no call's words", map[int]uint64{3: 4}, at(10, i(0), word(4), args(8, 1, 0, 0, 6)), load(3, 4), at(8, i(1)), api.Out{}},
		{"too few words", map[int]uint64{3: 4}, at(10, i(0), word(4), args(8, 0, 0, 0)), load(3, 4), at(8, i(1)), api.Out{}},
		{"a mail as new", map[int]uint64{19: 3<<44 | 1<<32}, at(11, i(0), try(1)), load(19, 3<<44|1<<32), at(11, word(3<<44|1<<32), i(1), try(0)), api.Out{}},
		{"a newer mail", map[int]uint64{19: 4 << 44}, at(11, i(0)), load(19, 4<<44), at(11, word(4<<44), i(1)), api.Out{}},
		{"an old mail", map[int]uint64{19: 2 << 44}, at(11, i(0)), load(19, 2<<44), at(12, word(2<<44)), api.Out{}},
		{"a mail that waits", map[int]uint64{19: 3<<44 | 14<<32}, at(11, i(0)), load(19, 3<<44|14<<32), at(12, word(3<<44|14<<32)), api.Out{}},
		{"a mail of who waits still", map[int]uint64{19: 3 << 44}, at(11, i(0), buf(0, 0, 3<<44|14<<32, 0)), load(19, 3<<44), at(11, word(3<<44), i(1)), api.Out{}},
		{"an old mail of the last thread", map[int]uint64{20: 1 << 44}, at(11), load(20, 1<<44), at(12, word(1<<44)), api.Out{}},
		{"a mail brought up", map[int]uint64{19: 99}, at(12, i(0)), swap(19, 99, 3<<44), at(11, i(1)), api.Out{}},
		{"a mail brought up the second time", map[int]uint64{19: 99}, at(12, i(0), try(1)), swap(19, 99, 3<<44), at(11, i(1), try(0)), api.Out{}},
		{"a mail in vain", map[int]uint64{19: 98}, at(12, i(0)), inVain(19, 99, 98), at(11, try(1)), api.Out{}},
		{"a mail in vain twice", map[int]uint64{19: 98}, at(12, i(0), try(1)), inVain(19, 99, 98), at(11, i(1), try(0)), api.Out{}},
	})
}

// behind is how thread 1 is behind the last mail: with these calls, and this record to write.
func behind(ops []api.Op, l ...uint64) func(x *api.Task) {
	return at(13, i(0), try(0), found(ops...), next(l...))
}

func TestDo_P16_2_P16_3(t *testing.T) {
	take, own := api.Op{Thread: 0, Seq: 4, Phase: 2, Req: kind(api.RTake)}, api.Op{Thread: 1, Seq: 4, Req: put(7)}
	announced := api.Op{Thread: 1, Seq: 4, Phase: 1, Req: put(7)}
	steps(t, queue, []row{
		{"the last mail as new", map[int]uint64{20: 2 << 44}, at(11), load(20, 2<<44), at(13, word(2<<44), behind([]api.Op{take, own}, 1, 7, 4<<44|9, 4<<44)), api.Out{}},
		{"the last mail brought up", map[int]uint64{20: 99}, at(12), swap(20, 99, 2<<44), behind([]api.Op{take, own}, 1, 7, 4<<44|9, 4<<44), api.Out{}},
		{"the last mail in vain twice", map[int]uint64{20: 98}, at(12, try(1)), inVain(20, 99, 98), behind([]api.Op{take, own}, 1, 7, 4<<44|9, 4<<44), api.Out{}},
		{"nothing was found", map[int]uint64{20: 99}, at(12, found()), swap(20, 99, 2<<44), behind([]api.Op{own}, 1, 9, 3<<44, 4<<44|10<<32), api.Out{}},
		{"who announced does what was found alone", map[int]uint64{20: 99}, at(12, slow, found(take, announced)), swap(20, 99, 2<<44), behind([]api.Op{announced, take}, 0, 0, 4<<44|9, 4<<44|10<<32), api.Out{}},
		{"who announced found nothing", map[int]uint64{20: 99}, at(12, slow, found()), swap(20, 99, 2<<44), behind(nil, 1, 9, 3<<44, 2<<44), api.Out{}},
		{"its own is behind all, whatever its phase", map[int]uint64{20: 99}, at(12, found(api.Op{Thread: 1, Seq: 3, Phase: 9, Req: kind(api.RTake)}, take)), swap(20, 99, 2<<44),
			behind([]api.Op{take, {Thread: 1, Seq: 3, Phase: 9, Req: kind(api.RTake)}, own}, 1, 7, 4<<44|9, 4<<44), api.Out{}},
		{"the tag of its own node", map[int]uint64{41: 1}, at(13), store(41, 1, 2), at(14), api.Out{}},
		{"a word of the record", map[int]uint64{43: 5}, at(14), store(43, 5, 0), at(14, i(2)), api.Out{}},
		{"the last word", map[int]uint64{45: 5}, at(14, i(3)), store(45, 5, 2<<44), at(15, i(4)), api.Out{}},
		{"a new root", map[int]uint64{0: 3<<16 + 3}, at(15), swap(0, 3<<16+3, 2<<16+5),
			at(20, won, res(api.Result{Seq: 2}), pool(api.Pool{Free: full().Pool.Free, Old: full().Pool.Old})), api.Out{Won: true, Ops: []api.Op{take}}},
		{"another root by now", map[int]uint64{0: 4<<16 + 3}, at(15), inVain(0, 3<<16+3, 4<<16+3), at(16, round(2), found()), api.Out{}},
	})
}

func TestTries_P16_3(t *testing.T) {
	patient, hasty := queue, queue
	patient.Patience, hasty.Patience = 2, 0
	root := map[int]uint64{0: 4<<16 + 3}
	for c, rows := range map[*api.Config][]row{
		&queue: {
			{"the second try is beyond patience", root, at(5), load(0, 4<<16+3), at(16, round(2), found()), api.Out{}},
			{"who announced has another one", root, at(5, slow), load(0, 4<<16+3), at(3, slow, round(2), found()), api.Out{}},
			{"and a third one", root, at(5, slow, round(2)), load(0, 4<<16+3), at(3, round(3), found()), api.Out{}},
			{"then it asks its mail", root, at(5, slow, round(3)), load(0, 4<<16+3), at(19, round(4), found()), api.Out{}},
			{"the first try", nil, at(2), store(18, 0, 11), at(3), api.Out{}},
		},
		&patient: {
			{"a second try", root, at(5), load(0, 4<<16+3), at(3, round(2), found()), api.Out{}},
			{"no third try", root, at(5, round(2)), load(0, 4<<16+3), at(16, round(3), found()), api.Out{}},
			{"as many to who announced", root, at(5, slow, round(3)), load(0, 4<<16+3), at(19, round(4), found()), api.Out{}},
		},
		&hasty: {
			{"no try ahead of announcing", nil, at(2), store(18, 0, 11), at(16), api.Out{}},
			{"nor behind a failure", root, at(5), load(0, 4<<16+3), at(16, round(2), found()), api.Out{}},
		},
	} {
		steps(t, *c, rows)
	}
}

func TestAnnounce_P16_2(t *testing.T) {
	add := func(was uint64) api.Access {
		return api.Access{Thread: 1, Kind: api.Add, Addr: 2, Old: was, Now: was + 1, Ok: true}
	}
	steps(t, queue, []row{
		{"a phase", map[int]uint64{2: 6}, at(16), add(6), at(17, j(0), args(call(6)...)), api.Out{}},
		{"the last phase", map[int]uint64{2: 1<<32 - 1}, at(16), add(1<<32 - 1), at(17, j(0), args(call(1<<32-1)...)), api.Out{}},
		{"phases go round", map[int]uint64{2: 1<<32 + 5}, at(16), add(1<<32 + 5), at(17, j(0), args(call(5)...)), api.Out{}},
		{"so does the word", map[int]uint64{2: math.MaxUint64}, at(16), add(math.MaxUint64), at(17, j(0), args(call(1<<32-1)...)), api.Out{}},
		{"a word of the call", map[int]uint64{12: 9}, at(17, args(5, 6, 7, 8, 9)), store(12, 9, 7), at(17, j(3)), api.Out{}},
		{"the last word", nil, at(17, j(4), args(5, 6, 7, 8, 9)), store(14, 0, 9), at(18, j(5)), api.Out{}},
		{"its number", map[int]uint64{4: 2}, at(18, round(2)), store(4, 2, 4), at(3, slow, round(1)), api.Out{}},
		{"its mail", map[int]uint64{20: 4<<44 | 3<<40 | 7}, at(19, slow), load(20, 4<<44|3<<40|7), at(20, res(api.Result{Seq: 4, Case: 3, Value: 7})), api.Out{}},
		{"an old mail", map[int]uint64{20: 2 << 44}, at(19, slow), load(20, 2<<44), at(20, res(api.Result{Seq: 2})), api.Out{}},
	})
}

func TestLeave_P16_2_P16_3(t *testing.T) {
	free := full().Pool.Free
	much := api.Pool{Own: api.Ref{Index: 4, Tag: 2}, Free: free, Old: old([3]int{6, 1, 3}, [3]int{1, 1, 4})}
	none := api.Pool{Old: old([3]int{6, 1, 3})}
	steps(t, queue, []row{
		{"no guard", map[int]uint64{16: 9}, at(20, try(2)), store(16, 9, 0), at(22, try(0)), api.Out{}},
		{"no guard of who changed the root", map[int]uint64{16: 9}, at(20, try(2), won), store(16, 9, 0), at(21, try(0)), api.Out{}},
		{"the old root is put away", map[int]uint64{1: 8}, at(21, won), load(1, 8),
			at(22, pool(api.Pool{Own: api.Ref{Index: 4, Tag: 2}, Free: free, Old: old([3]int{6, 1, 3}, [3]int{2, 3, 8})})), api.Out{}},
		{"a mail as new", map[int]uint64{20: 3 << 44}, at(22), load(20, 3<<44), at(28, word(3<<44)), api.Out{}},
		{"a newer mail", map[int]uint64{20: 4 << 44}, at(22), load(20, 4<<44), at(28, word(4<<44)), api.Out{}},
		{"an old mail", map[int]uint64{20: 3<<44 | 14<<32}, at(22), load(20, 3<<44|14<<32), at(23, word(3<<44|14<<32)), api.Out{}},
		{"much is put away", map[int]uint64{20: 3 << 44}, at(22, pool(much)), load(20, 3<<44), at(24, word(3<<44)), api.Out{}},
		{"nothing can be taken", map[int]uint64{20: 3 << 44}, at(22, pool(none)), load(20, 3<<44), at(24, word(3<<44)), api.Out{}},
		{"much, and it waited", map[int]uint64{20: 3 << 44}, at(22, pool(much), waits), load(20, 3<<44), is(api.Task{Seq: 4, Req: put(7), Res: api.Result{Seq: 3, Value: 6}, Pool: much}), api.Out{Note: api.NReturn}},
		{"a mail brought up", map[int]uint64{20: 99}, at(23), swap(20, 99, 3<<44|6), at(28, try(1)), api.Out{}},
		{"a mail in vain", map[int]uint64{20: 98}, at(23), inVain(20, 99, 98), at(22, try(1)), api.Out{}},
		{"a mail in vain twice", map[int]uint64{20: 98}, at(23, try(1), pool(much)), inVain(20, 99, 98), at(24, try(2)), api.Out{}},
		{"a mail brought up of who waited", map[int]uint64{20: 99}, at(23, waits), swap(20, 99, 3<<44|6), is(api.Task{Seq: 4, Req: put(7), Res: api.Result{Seq: 3, Value: 6}, Pool: full().Pool}), api.Out{Note: api.NReturn}},
		{"it returns", map[int]uint64{18: 9}, at(28), store(18, 9, 0), is(api.Task{Seq: 4, Req: put(7), Res: api.Result{Seq: 3, Value: 6}, Pool: full().Pool}), api.Out{Note: api.NReturn}},
		{"it returns with an error", map[int]uint64{18: 9}, at(28, slow, won, res(api.Result{Seq: 4, Code: api.ENOMEM})), store(18, 9, 0),
			is(api.Task{Seq: 4, Req: put(7), Res: api.Result{Seq: 4, Code: api.ENOMEM}, Pool: full().Pool}), api.Out{Note: api.NReturn}},
		{"it waits", map[int]uint64{18: 9}, at(28, slow, won, res(api.Result{Seq: 4, Code: api.EPARK})), store(18, 9, 0),
			is(api.Task{Pc: 29, Seq: 4, Req: put(7), Res: api.Result{Seq: 4, Code: api.EPARK}, Pool: full().Pool, Waits: true}), api.Out{Note: api.NPark}},
	})
}

// is lets a thread be another one.
func is(k api.Task) func(x *api.Task) { return func(x *api.Task) { *x = k } }

func TestScan_P16_2_P16_3(t *testing.T) {
	free, own := full().Pool.Free, full().Pool.Own
	two := api.Pool{Own: own, Free: free, Old: old([3]int{6, 1, 3}, [3]int{1, 1, 4})}
	one := api.Pool{Own: own, Free: []api.Slot{{Index: 5, Tag: 1}, {Index: 6, Tag: 1}}, Old: old([3]int{1, 1, 4})}
	empty := api.Pool{Own: own, Free: []api.Slot{{Index: 5, Tag: 1}, {Index: 6, Tag: 1}, {Index: 1, Tag: 1}}}
	wants, got := api.Pool{Old: old([3]int{6, 1, 3})}, api.Pool{Own: api.Ref{Index: 6, Tag: 2}}
	steps(t, queue, []row{
		{"too little is free by epochs", map[int]uint64{1: 4}, at(24, pool(two)), load(1, 4), at(25, word(4), i(0), all), api.Out{}},
		{"enough is free by epochs", map[int]uint64{1: 5}, at(24, pool(two)), load(1, 5), at(28, word(5), i(0), all, pool(one)), api.Out{}},
		{"enough is free to who wants a node", map[int]uint64{1: 5}, at(24, pool(wants), scans), load(1, 5), at(3, word(5), i(0), all, pool(got), noScans), api.Out{}},
		{"too little is free to who wants a node", map[int]uint64{1: 4}, at(24, pool(wants), scans), load(1, 4), at(25, word(4), i(0), all), api.Out{}},
		{"who is in the epoch lets it end", map[int]uint64{17: 9}, at(25, i(0), word(4), all), load(17, 9), at(25, i(1)), api.Out{}},
		{"who is in none lets it end", map[int]uint64{17: 0}, at(25, i(0), word(4), all), load(17, 0), at(25, i(1)), api.Out{}},
		{"who is in an older one does not", map[int]uint64{17: 7}, at(25, i(0), word(4), all), load(17, 7), at(25, i(1), notAll), api.Out{}},
		{"who lets it end is not all", map[int]uint64{17: 9}, at(25, i(0), word(4)), load(17, 9), at(25, i(1)), api.Out{}},
		{"it does not ask itself", map[int]uint64{18: 7}, at(25, word(4), all), load(18, 7), at(26, i(0), seen()), api.Out{}},
		{"not all let it end", map[int]uint64{18: 9}, at(25, word(4)), load(18, 9), at(27, i(0), seen()), api.Out{}},
		{"it ends, and enough is free", map[int]uint64{1: 4}, at(26, word(4), pool(two)), swap(1, 4, 5), at(28, pool(one)), api.Out{}},
		{"it ends, and all is free", map[int]uint64{1: 5}, at(26, word(5), pool(two)), swap(1, 5, 6), at(28, pool(empty)), api.Out{}},
		{"it ends, and too little is free", map[int]uint64{1: 3}, at(26, word(3), pool(two)), swap(1, 3, 4), at(27), api.Out{}},
		{"it ends, and what was wanted is free", map[int]uint64{1: 4}, at(26, word(4), pool(wants), scans), swap(1, 4, 5), at(3, pool(got), noScans), api.Out{}},
		{"it has ended", map[int]uint64{1: 9}, at(26, word(4), pool(two)), inVain(1, 4, 9), at(27), api.Out{}},
		{"it has ended, and little is put away", map[int]uint64{1: 9}, at(26, word(4)), inVain(1, 4, 9), at(27), api.Out{}},
		{"a guard", map[int]uint64{15: 9}, at(27, i(0)), load(15, 9), at(27, i(1), seen(8, 9)), api.Out{}},
		{"no node is guarded", map[int]uint64{16: 9}, at(27, pool(two)), load(16, 9), at(28, i(2), seen(8, 9), pool(empty)), api.Out{}},
		{"one is guarded", map[int]uint64{16: 1<<16 + 2}, at(27, pool(two)), load(16, 1<<16+2), at(28, i(2), seen(8, 1<<16+2), pool(one)), api.Out{}},
		{"both are guarded", map[int]uint64{16: 1<<16 + 2}, at(27, pool(two), seen(1<<16+7)), load(16, 1<<16+2), at(28, i(2), seen(1<<16+7, 1<<16+2)), api.Out{}},
		{"an older name is guarded", map[int]uint64{16: 2<<16 + 2}, at(27, pool(two)), load(16, 2<<16+2), at(28, i(2), seen(8, 2<<16+2), pool(empty)), api.Out{}},
		{"what was wanted is free", map[int]uint64{16: 9}, at(27, pool(wants), scans), load(16, 9), at(3, i(2), seen(8, 9), pool(got), noScans), api.Out{}},
		{"what was wanted is guarded", map[int]uint64{16: 1<<16 + 7}, at(27, pool(wants), scans), load(16, 1<<16+7),
			at(28, i(2), seen(8, 1<<16+7), res(api.Result{Seq: 4, Code: api.ENOMEM}), noScans), api.Out{}},
		{"what was wanted has no tags any more", map[int]uint64{16: 9}, at(27, pool(api.Pool{Old: old([3]int{6, 9, 3})}), scans), load(16, 9),
			at(28, i(2), seen(8, 9), pool(api.Pool{Spent: 1}), res(api.Result{Seq: 4, Code: api.ETAG}), noScans), api.Out{}},
	})
}

func TestTake_P16_3(t *testing.T) {
	get := func(p api.Pool, sets ...func(*api.Task)) func(*api.Task) {
		return at(2, append([]func(*api.Task){pool(p)}, sets...)...)
	}
	epochs := store(18, 0, 11)
	steps(t, queue, []row{
		{"its own", nil, get(api.Pool{Own: api.Ref{Index: 4, Tag: 2}}), epochs, at(3), api.Out{}},
		{"its own, and it looked for it", nil, get(api.Pool{Own: api.Ref{Index: 4, Tag: 2}}, scans), epochs, at(3, noScans), api.Out{}},
		{"a free one", nil, get(api.Pool{Free: []api.Slot{{Index: 4, Tag: 8}, {Index: 5}}}), epochs, at(3, pool(api.Pool{Own: api.Ref{Index: 4, Tag: 9}, Free: []api.Slot{{Index: 5}}})), api.Out{}},
		{"the first one has no tags any more", nil, get(api.Pool{Free: []api.Slot{{Index: 4, Tag: 9}, {Index: 5}}}), epochs, at(3, pool(api.Pool{Own: api.Ref{Index: 5, Tag: 1}, Spent: 1})), api.Out{}},
		{"none is free", nil, get(api.Pool{Old: old([3]int{6, 1, 3})}), epochs, at(24, scans), api.Out{}},
		{"none is free, and it has looked", nil, get(api.Pool{Old: old([3]int{6, 1, 3})}, scans), epochs, at(28, noScans, res(api.Result{Seq: 4, Code: api.ENOMEM})), api.Out{}},
		{"free ones have no tags any more", nil, get(api.Pool{Free: []api.Slot{{Index: 4, Tag: 9}, {Index: 5, Tag: 9}}, Old: old([3]int{6, 1, 3})}), epochs, at(24, scans, pool(api.Pool{Old: old([3]int{6, 1, 3}), Spent: 2})), api.Out{}},
		{"there are none", nil, get(api.Pool{Spent: 3}), epochs, at(28, res(api.Result{Seq: 4, Code: api.ETAG})), api.Out{}},
		{"there are none any more", nil, get(api.Pool{Free: []api.Slot{{Index: 4, Tag: 9}}, Spent: 2}), epochs, at(28, pool(api.Pool{Spent: 3}), res(api.Result{Seq: 4, Code: api.ETAG})), api.Out{}},
		{"who announced goes on with its tries", nil, get(api.Pool{Own: api.Ref{Index: 4, Tag: 2}}, slow, round(4)), epochs, at(19), api.Out{}},
	})
}

func TestWait_P16_2_P16_3(t *testing.T) {
	ended := api.Task{Seq: 4, Req: put(7), Res: api.Result{Seq: 4, Value: 5}, Pool: full().Pool}
	steps(t, queue, []row{
		{"a mail that ends it", map[int]uint64{20: 4<<44 | 5}, at(29, waits), load(20, 4<<44|5), is(ended), api.Out{Note: api.NReturn}},
		{"a mail that says that it waits", map[int]uint64{20: 4<<44 | 14<<32}, at(29, waits), load(20, 4<<44|14<<32), at(30), api.Out{}},
		{"an older mail", map[int]uint64{20: 3 << 44}, at(29, waits), load(20, 3<<44), at(30), api.Out{}},
		{"a newer mail", map[int]uint64{20: 5 << 44}, at(29, waits), load(20, 5<<44), at(30), api.Out{}},
		{"the epoch", map[int]uint64{1: 6}, at(30, waits), load(1, 6), at(31, epoch(6)), api.Out{}},
		{"its own epoch", nil, at(31, waits), store(18, 0, 11), at(32), api.Out{}},
		{"the root", map[int]uint64{0: 5<<16 + 4}, at(32, waits), load(0, 5<<16+4), at(33, base(3, 5)), api.Out{}},
		{"no root", map[int]uint64{0: 4}, at(32, waits), load(0, 4), at(33, base(0, 0)), api.Out{}},
		{"a guard", nil, at(33, waits), store(16, 0, 3<<16+3), at(34), api.Out{}},
		{"the root still", map[int]uint64{0: 3<<16 + 3}, at(34, waits), load(0, 3<<16+3), at(35, word(0)), api.Out{}},
		{"another root", map[int]uint64{0: 4<<16 + 3}, at(34, waits), load(0, 4<<16+3), at(37, word(0)), api.Out{}},
		{"the tag", map[int]uint64{31: 3}, at(35, waits), load(31, 3), at(36), api.Out{}},
		{"another tag", map[int]uint64{31: 2}, at(35, waits), load(31, 2), at(37), api.Out{}},
		{"what its call came to", map[int]uint64{35: 8}, at(36, waits), load(35, 8), at(37, word(8)), api.Out{}},
		{"no guard", map[int]uint64{16: 9}, at(37, waits), store(16, 9, 0), at(38), api.Out{}},
		{"it is over", map[int]uint64{18: 9}, at(38, waits, word(4<<44|5), try(1)), store(18, 9, 0), at(22, try(0), res(api.Result{Seq: 4, Value: 5})), api.Out{}},
		{"it waits on", map[int]uint64{18: 9}, at(38, waits, word(4<<44|14<<32), try(1)), store(18, 9, 0), at(29), api.Out{}},
		{"nothing was seen", map[int]uint64{18: 9}, at(38, waits, word(0), try(1)), store(18, 9, 0), at(29), api.Out{}},
		{"another call's", map[int]uint64{18: 9}, at(38, waits, word(5<<44)), store(18, 9, 0), at(29), api.Out{}},
		{"an older call's", map[int]uint64{18: 9}, at(38, waits, word(3<<44)), store(18, 9, 0), at(29), api.Out{}},
	})
}

// What its call came to stands behind all of the object's own words, thread by thread, of a hall too.
func TestWaitRecord_P16_2(t *testing.T) {
	c := hall(3, 1, 2, 1)
	// Node 2 lies at 30 + 2 * 21; its record has 17 words ahead of the three of what calls came to.
	m := words(t, c, map[int]uint64{72 + 1 + 17 + 2: 6})
	got, _ := task.Step(c, m, 2, api.Task{Pc: api.PWaitRecord, Base: api.Ref{Index: 2, Tag: 3}})
	if got.Word != 6 || m.Size() != 30+7*21 {
		t.Errorf("%+v, %+v", got, m.Log())
	}
}

// asItIs asks that a step is none.
func asItIs(t *testing.T, what string, c api.Config, m *mem.Mem, thread int, x api.Task) {
	t.Helper()
	was := m.All()
	got, out := task.Step(c, m, thread, x)
	if text(got) != text(x) || text(out) != text(api.Out{}) || len(m.Log()) != 0 || !slices.Equal(m.All(), was) {
		t.Errorf("%s: %+v, %+v, %+v", what, got, out, m.Log())
	}
}

func TestNoStep_P16_2(t *testing.T) {
	for pc := range api.PWaitLeave + 1 {
		x := full()
		x.Pc = pc
		for _, thread := range append([]int{2, 3, 64}, odd...) {
			asItIs(t, text("thread", thread, pc), queue, words(t, queue, nil), thread, x)
		}
		for _, n := range []int{1, 2, 55, 57, 112, 1 << 20} {
			m := mem.New(n)
			m.Keep(true)
			asItIs(t, text("so many words", n, pc), queue, m, 1, x)
		}
		asItIs(t, text("no words", pc), queue, nil, 1, x)
		asItIs(t, text("words that nobody made", pc), queue, &mem.Mem{}, 1, x)
		for _, c := range []api.Config{{}, {Threads: 2}, cells(api.KFifo, 2, 17, 3), cells(7, 2, 1, 3)} {
			asItIs(t, text("a shape that may not be", pc), c, words(t, queue, nil), 1, x)
			asItIs(t, text("a shape that may not be, no words", pc), c, nil, 1, x)
			asItIs(t, text("a shape that may not be, words that nobody made", pc), c, &mem.Mem{}, 1, x)
		}
	}
	for _, pc := range append([]int{0, 39, 40, 64}, odd...) {
		x := full()
		x.Pc = pc
		asItIs(t, text("Pc", pc), queue, words(t, queue, nil), 1, x)
	}
}

// A step on words of which there are none, as a thread made by hand may do one, reads 0, and writes nothing.
func TestNoWord_P16_2(t *testing.T) {
	far := base(60000, 3)
	none := api.Access{}
	for _, r := range []row{
		{"a node's tag", nil, at(6, far), none, at(16, round(2), found()), api.Out{}},
		{"a record's word", nil, at(7, far), none, at(7, i(2), buf(1, 9, 3<<44, 2<<44, 0)), api.Out{}},
		{"a thread's number", nil, at(8, i(1000)), none, at(8, word(0), i(1001)), api.Out{}},
		{"a thread's call", nil, at(9, j(1000)), none, at(9, j(1001), args(6, 0)), api.Out{}},
		{"a thread's number again", nil, at(10, i(1000)), none, at(8, i(1001)), api.Out{}},
		{"a thread's mail", nil, at(11, i(1000)), none, at(11, i(1001), word(0)), api.Out{}},
		{"a thread's mail to swap", nil, at(12, i(1000)), none, at(11, try(1)), api.Out{}},
		{"its own node's tag", nil, at(13, pool(api.Pool{Own: api.Ref{Index: 60000, Tag: 1}})), none, at(14), api.Out{}},
		{"its own node's record", nil, at(14, i(1000)), none, at(14, i(1001)), api.Out{}},
		{"its own call", nil, at(17, j(-1000)), none, at(17, j(-999)), api.Out{}},
		{"a thread's epoch", nil, at(25, i(1000), all), none, at(25, i(1001)), api.Out{}},
		{"a thread's guard", nil, at(27, i(1000)), none, at(27, i(1001), seen(8, 0)), api.Out{}},
		{"a node's tag, waiting", nil, at(35, far), none, at(37), api.Out{}},
		{"a node's record, waiting", nil, at(36, far), none, at(37, word(0)), api.Out{}},
	} {
		m := words(t, queue, nil)
		x := full()
		r.from(&x)
		want := x
		r.to(&want)
		if got, out := task.Step(queue, m, 1, x); text(got, out) != text(want, r.out) || len(m.Log()) != 0 {
			t.Errorf("%s: %+v, %+v", r.what, got, m.Log())
		}
	}
	// What lists lack is 0.
	for _, r := range []row{
		{"no next record", map[int]uint64{43: 9}, at(14, next()), store(43, 9, 0), at(14, i(2)), api.Out{}},
		{"no call", map[int]uint64{12: 9}, at(17, args()), store(12, 9, 0), at(17, j(3)), api.Out{}},
		{"no call, at its end", map[int]uint64{14: 9}, at(17, j(4), args()), store(14, 9, 0), at(18, j(5)), api.Out{}},
	} {
		steps(t, queue, []row{r})
	}
}

// spoil writes into all of a list, the room behind its end included.
func spoil[T any](l []T, with T) {
	l = l[:cap(l)]
	for i := range l {
		l[i] = with
	}
}

// spoilAll writes into all lists of a thread, and of what it did.
func spoilAll(x api.Task, out api.Out) {
	for _, l := range [][]uint64{x.Buf, x.Next, x.Args, x.Seen} {
		spoil(l, 7777)
	}
	spoil(x.Found, api.Op{Seq: 7777})
	spoil(out.Ops, api.Op{Seq: 7778})
	spoil(x.Pool.Free, api.Slot{Index: 7777})
	spoil(x.Pool.Old, api.Old{Stamp: 7777})
}

// roomy is full, with room behind each list's end.
func roomy() api.Task {
	x := full()
	room := func(l []uint64) []uint64 { return append(make([]uint64, 0, 9), l...) }
	x.Buf, x.Next, x.Args, x.Seen = room(x.Buf), room(x.Next), room(x.Args), room(x.Seen)
	x.Found = append(make([]api.Op, 0, 9), x.Found...)
	x.Pool.Free, x.Pool.Old = append(make([]api.Slot, 0, 9), x.Pool.Free...), append(make([]api.Old, 0, 9), x.Pool.Old...)
	return x
}

// rooms tells all of a thread's lists, the room behind their ends included.
func rooms(x api.Task) string {
	return text(x, x.Buf[:9], x.Next[:9], x.Args[:9], x.Seen[:9], x.Found[:9], x.Pool.Free[:9], x.Pool.Old[:9])
}

func TestApart_P16_1_P16_2(t *testing.T) {
	for pc := -1; pc <= api.PWaitLeave+1; pc++ {
		for _, last := range []bool{false, true} {
			x := roomy()
			x.Pc = pc
			if last {
				x.I, x.J, x.Args = 3, 4, x.Args[:5]
			}
			m, again := words(t, queue, map[int]uint64{0: 3<<16 + 3, 31: 3}), words(t, queue, map[int]uint64{0: 3<<16 + 3, 31: 3})
			before := rooms(x)
			got, out := task.Step(queue, m, 1, x)
			other, said := task.Step(queue, again, 1, x)
			want := text(other, said)
			if rooms(x) != before || text(got, out) != want {
				t.Errorf("%d: the thread was changed: %+v", pc, x)
			}
			kept := slices.Clone(out.Ops)
			spoilAll(got, api.Out{})
			if rooms(x) != before || text(other, said) != want || text(out.Ops) != text(kept) {
				t.Errorf("%d: memory is shared", pc)
			}
			spoil(out.Ops, api.Op{Seq: 7778})
			if rooms(x) != before || text(other, said) != want {
				t.Errorf("%d: memory is shared", pc)
			}
		}
	}
	for _, x := range []struct {
		pc, seq int
		q       api.Request
	}{{0, 4, put(7)}, {1, 4, put(7)}, {0, 4, put(-1)}, {0, 9, put(7)}} {
		k := roomy()
		k.Pc, k.Seq = x.pc, x.seq
		before := rooms(k)
		got, _ := task.Begin(queue, k, x.q)
		other, _ := task.Begin(queue, k, x.q)
		want := text(other)
		if spoilAll(got, api.Out{}); rooms(k) != before || text(other) != want {
			t.Errorf("%+v: memory is shared", x)
		}
	}
	a, b := task.New(queue, 1), task.New(queue, 1)
	if spoilAll(a, api.Out{}); text(b) != text(api.Task{Pool: layout.Pool(queue, 1)}) {
		t.Error("memory is shared")
	}
}

// The words of calls are those of pack.
func TestCall_P16_2(t *testing.T) {
	if !slices.Equal(call(6), pack.Call(put(7), 6)) {
		t.Error(call(6))
	}
}
