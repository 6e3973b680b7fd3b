package inspect_test

import (
	"fmt"
	"math"
	"slices"
	"testing"

	"stopgate/api"
	"stopgate/inspect"
	"stopgate/layout"
	"stopgate/pack"
	"stopgate/ref"
)

// queue is a shape of two threads: threads' words lie from 3 on, nodes from 21 on, five words each.
var queue = api.Config{Kind: api.KFifo, Threads: 2, Cap: 1, Nodes: 3, Retire: 2, Patience: 1, Tags: 9, Seqs: 9}

func hall(threads, nodes int) api.Config {
	return api.Config{Kind: api.KHall, Threads: threads, Chans: 1, Cap: 1, Nodes: nodes, Retire: 2, Patience: 1, Tags: 9, Seqs: 9, Gens: 9}
}

// text tells all fields of things, nil lists as empty ones: what has the same text is the same.
func text(l ...any) string { return fmt.Sprintf("%+v", l) }

// odd is numbers that hardly anything may be.
var odd = []int{math.MinInt, math.MinInt + 1, -1 << 32, -2, -1, 1 << 32, 1 << 53, math.MaxInt - 1, math.MaxInt}

// start is a machine's words at first, with room behind them.
func start(c api.Config) []uint64 {
	m, _ := layout.Setup(c)
	return append(m.All(), 77)[:layout.Total(c)]
}

// with is words with others at addresses.
func with(l []uint64, changes map[int]uint64) []uint64 {
	l = slices.Clone(l)
	for addr, w := range changes {
		l[addr] = w
	}
	return l
}

// spoil writes into all of a list, the room behind its end included.
func spoil[T any](l []T, with T) {
	l = l[:cap(l)]
	for i := range l {
		l[i] = with
	}
}

// all is what all calls answer, as text.
func all(c api.Config, l []uint64, i int) string {
	r, record, ok := inspect.Root(c, l)
	return text(r, record, ok, inspect.Tag(c, l, i), inspect.Record(c, l, i), inspect.Announced(c, l), inspect.Guards(c, l), inspect.Epochs(c, l),
		inspect.Mails(c, l), inspect.Late(c, l), inspect.Used(c, l))
}

// nothing is what they answer where there is nothing.
var nothing = text(api.Ref{}, []uint64{}, false, 0, []uint64{}, []api.Op{}, []api.Ref{}, []int{}, []api.Result{}, []int{}, []int{})

func TestExample_P31_1_P31_3(t *testing.T) {
	for _, c := range []api.Config{queue, hall(3, 2)} {
		l := start(c)
		r, record, ok := inspect.Root(c, l)
		if !ok || r != (api.Ref{Tag: 1}) || !slices.Equal(record, l[layout.Node(c, 0)+1:layout.Node(c, 1)]) {
			t.Error(r, record, ok)
		}
		if used := inspect.Used(c, l); !slices.Equal(used, []int{0}) {
			t.Error(used)
		}
		if epochs := inspect.Epochs(c, l); !slices.Equal(epochs, []int{-1, -1, -1}[:c.Threads]) {
			t.Error(epochs)
		}
		if text(inspect.Announced(c, l), inspect.Guards(c, l), inspect.Mails(c, l), inspect.Late(c, l)) != text([]api.Op{}, make([]api.Ref, c.Threads), make([]api.Result, c.Threads), []int{}) {
			t.Error(all(c, l, 0))
		}
	}
}

func TestNothing_P31_1_P31_2_P31_3(t *testing.T) {
	for _, c := range []api.Config{queue, hall(1, 1)} {
		l := append(start(c), 0, 0)
		n := layout.Total(c)
		for _, words := range [][]uint64{nil, {}, l[:1], l[:n-1], l[:n+1], l[:n+2], slices.Concat(l, l)} {
			for _, i := range []int{0, 1, -1} {
				if got := all(c, words, i); got != nothing {
					t.Errorf("%d words: %s", len(words), got)
				}
			}
		}
		if all(c, l[:n], 0) == nothing {
			t.Error("there is nothing of good words")
		}
	}
	for _, n := range odd {
		for _, c := range []api.Config{{}, {Threads: n}, {Kind: api.KFifo, Threads: n, Cap: 1, Nodes: 1, Retire: 1, Tags: 1, Seqs: 1}, {Kind: n, Threads: 1, Cap: 1, Nodes: 1, Retire: 1, Tags: 1, Seqs: 1}, {Kind: api.KLifo, Threads: 1, Cap: 1, Nodes: n, Retire: 1, Tags: 1, Seqs: 1}} {
			for _, words := range [][]uint64{nil, {65537}, make([]uint64, 56)} {
				if got := all(c, words, 0); got != nothing {
					t.Errorf("%+v: %s", c, got)
				}
			}
		}
	}
}

// Of a shape of too many words there is nothing, also if there are as many.
func TestHuge_P31_1_P31_2_P31_3(t *testing.T) {
	c := hall(64, 64)
	c.Chans, c.Cap = 8, 8
	words := make([]uint64, layout.Total(c))
	words[0], words[layout.Node(c, 0)] = 65537, 1
	if got := all(c, words, 0); layout.Check(c) != api.ELONG || got != nothing {
		t.Error(layout.Check(c), got)
	}
}

func TestTag_P31_1(t *testing.T) {
	l := start(queue)
	for i := range l {
		l[i] = uint64(1000 + i)
	}
	for i := range 7 {
		if got := inspect.Tag(queue, l, i); got != 1021+5*i {
			t.Errorf("node %d: %d", i, got)
		}
		got, again := inspect.Record(queue, l, i), inspect.Record(queue, l, i)
		if !slices.Equal(got, []uint64{uint64(1022 + 5*i), uint64(1023 + 5*i), uint64(1024 + 5*i), uint64(1025 + 5*i)}) {
			t.Errorf("node %d: %d", i, got)
		}
		before := slices.Clone(l[:cap(l)])
		if spoil(got, 9); !slices.Equal(l[:cap(l)], before) || slices.Contains(again, 9) {
			t.Error("memory is shared")
		}
	}
	for _, i := range append([]int{7, 8, 64, 1 << 20}, odd...) {
		if tag, record := inspect.Tag(queue, l, i), inspect.Record(queue, l, i); tag != 0 || len(record) != 0 {
			t.Errorf("node %d: %d, %d", i, tag, record)
		}
	}
	for w, want := range map[uint64]int{0: 0, 1: 1, 1<<32 - 1: 1<<32 - 1, 1 << 32: 0, 1<<32 + 5: 5, 1 << 63: 0, math.MaxUint64: 1<<32 - 1} {
		if got := inspect.Tag(queue, with(l, map[int]uint64{31: w}), 2); got != want {
			t.Errorf("%x: %d", w, got)
		}
	}
}

func TestRoot_P31_1(t *testing.T) {
	l := start(queue)
	for i := range 4 {
		l[47+i] = uint64(90 + i) // node 5's record
	}
	for _, x := range []struct {
		what      string
		root, tag uint64
		want      bool
	}{
		{"node 5 by its tag", 8<<16 + 6, 8, true},
		{"an older tag", 8<<16 + 6, 9, false},
		{"a newer tag", 8<<16 + 6, 7, false},
		{"a tag modulo 2^32", 8<<16 + 6, 1<<32 + 8, true},
		{"the greatest tag", (1<<32-1)<<16 + 6, 1<<32 - 1, true},
		{"the greatest tag, and more", (1<<32-1)<<16 + 6, math.MaxUint64, true},
		{"a tag beyond those of names", 1<<48 + 6, 1 << 32, false},
		{"a tag beyond those of names, modulo", 1<<48 + 6, 0, false},
		{"a name of tag 0", 6, 0, false},
		{"no name", 0, 0, false},
		{"no name, a tag", 8 << 16, 8, false},
		{"no such node", 8<<16 + 8, 8, false},
		{"far from any node", 8<<16 + 65535, 8, false},
		{"no word of a name", math.MaxUint64, 1<<32 - 1, false},
	} {
		words := with(l, map[int]uint64{0: x.root, 46: x.tag})
		r, record, ok := inspect.Root(queue, words)
		if ok != x.want || ok && (r.Index != 5 || ref.Word(r) != x.root || !slices.Equal(record, []uint64{90, 91, 92, 93})) || !ok && text(r, record) != text(api.Ref{}, []uint64{}) {
			t.Errorf("%s: %v, %d, %v", x.what, r, record, ok)
		}
		if !x.want && (len(inspect.Announced(queue, announce(words, 0, 5, 1))) != 0 || len(inspect.Late(queue, words)) != 0) {
			t.Errorf("%s: there is a root", x.what)
		}
		if text(inspect.Guards(queue, words), inspect.Epochs(queue, words), inspect.Mails(queue, words)) != text(make([]api.Ref, 2), []int{-1, -1}, make([]api.Result, 2)) {
			t.Errorf("%s: threads' words hang on the root", x.what)
		}
	}
	// The last node is one, behind which there is none.
	if r, _, ok := inspect.Root(queue, with(l, map[int]uint64{0: 1<<16 + 7, 51: 1})); !ok || r.Index != 6 {
		t.Error(r, ok)
	}
	if r, _, ok := inspect.Root(queue, with(l, map[int]uint64{0: 1<<16 + 8, 51: 1})); ok {
		t.Error(r)
	}
	a, one, _ := inspect.Root(queue, l)
	_, other, _ := inspect.Root(queue, l)
	before := slices.Clone(l[:cap(l)])
	if spoil(one, 9); !slices.Equal(l[:cap(l)], before) || slices.Contains(other, 9) {
		t.Error("memory is shared", a)
	}
}

func TestUsed_P31_1(t *testing.T) {
	l := start(queue)
	for _, x := range []struct {
		tags map[int]uint64
		want []int
	}{
		{map[int]uint64{21: 0}, nil},
		{map[int]uint64{51: 4}, []int{0, 6}},
		{map[int]uint64{46: 1 << 32, 26: 1, 36: math.MaxUint64}, []int{0, 1, 3, 5}},
		{map[int]uint64{22: 7, 27: 7, 55: 7, 20: 7}, []int{0}},
	} {
		if got := inspect.Used(queue, with(l, x.tags)); !slices.Equal(got, x.want) {
			t.Errorf("%v: %d", x.tags, got)
		}
	}
}

// announce is words with a call that a thread announced: to put 5.
func announce(l []uint64, thread int, seq uint64, phase int) []uint64 {
	l = slices.Clone(l)
	l[3+thread] = seq
	copy(l[5+5*thread:], pack.Call(api.Request{Kind: api.RPut, Value: 5}, phase))
	return l
}

// done is words of which the root's record says what a thread's call came to.
func done(l []uint64, thread int, r api.Result) []uint64 {
	return with(l, map[int]uint64{24 + thread: pack.Result(r)})
}

func op(thread, seq, phase int) api.Op {
	return api.Op{Thread: thread, Seq: seq, Phase: phase, Req: api.Request{Kind: api.RPut, Value: 5}}
}

func TestAnnounced_P31_2(t *testing.T) {
	l := start(queue)
	for _, x := range []struct {
		what string
		l    []uint64
		want []api.Op
	}{
		{"nobody", l, nil},
		{"one", announce(l, 1, 3, 8), []api.Op{op(1, 3, 8)}},
		{"both, by threads, whatever their phases", announce(announce(l, 1, 3, 2), 0, 4, 6), []api.Op{op(0, 4, 6), op(1, 3, 2)}},
		{"the number 0", announce(l, 0, 0, 1), nil},
		{"done", done(announce(l, 0, 4, 1), 0, api.Result{Seq: 4}), nil},
		{"done, and waits", done(announce(l, 0, 4, 1), 0, api.Result{Seq: 4, Code: api.EPARK}), nil},
		{"an older one is done", done(announce(l, 0, 4, 1), 0, api.Result{Seq: 3, Code: api.EARG}), []api.Op{op(0, 4, 1)}},
		{"an older one waits", done(announce(l, 0, 4, 1), 0, api.Result{Seq: 3, Code: api.EPARK}), []api.Op{op(0, 4, 1)}},
		{"a newer one is done", done(announce(l, 0, 4, 1), 0, api.Result{Seq: 5}), nil},
		{"another thread's is done", done(announce(l, 0, 4, 1), 1, api.Result{Seq: 4}), []api.Op{op(0, 4, 1)}},
		{"the last number", announce(l, 1, 1<<20-1, 0), []api.Op{op(1, 1<<20-1, 0)}},
		{"beyond the last number", announce(l, 1, 1<<20, 0), nil},
		{"far beyond it", announce(l, 1, math.MaxUint64, 0), nil},
		{"the last phase", announce(l, 1, 1, 1<<32-1), []api.Op{op(1, 1, 1<<32-1)}},
		{"a phase beyond it", with(announce(l, 1, 1, 1), map[int]uint64{14: 1 << 32}), nil},
		{"no call's words", with(announce(l, 1, 1, 1), map[int]uint64{10: 0}), nil},
		{"a case that there is not", with(announce(l, 1, 1, 1), map[int]uint64{13: 1}), nil},
		{"no call's words beside another one", with(announce(announce(l, 0, 2, 3), 1, 1, 1), map[int]uint64{11: 9}), []api.Op{op(0, 2, 3)}},
	} {
		if got := inspect.Announced(queue, x.l); text(got) != text(x.want) {
			t.Errorf("%s: %+v", x.what, got)
		}
	}
}

// What is done is what the root's record says, not another node's.
func TestAnnouncedByRoot_P31_2_P31_3(t *testing.T) {
	l := with(announce(start(queue), 0, 4, 1), map[int]uint64{0: 3<<16 + 3, 31: 3}) // the root is node 2
	for addr, want := range map[int]string{
		34: text([]api.Op{}, []int{0}),            // thread 0's in node 2
		24: text([]api.Op{op(0, 4, 1)}, []int{}),  // thread 0's in node 0
		35: text([]api.Op{op(0, 4, 1)}, []int{1}), // thread 1's in node 2
		29: text([]api.Op{op(0, 4, 1)}, []int{}),  // thread 0's in node 1
	} {
		words := with(l, map[int]uint64{addr: 4 << 44})
		if got := text(inspect.Announced(queue, words), inspect.Late(queue, words)); got != want {
			t.Errorf("%d: %s", addr, got)
		}
	}
}

// A select's cases come with it, in memory of their own.
func TestAnnouncedCases_P31_2(t *testing.T) {
	c := hall(2, 1)
	q := api.Request{Kind: api.RSelect, Default: true, Cases: []api.Case{{Dir: api.Send, Handle: 8, Value: 3}, {Dir: api.Recv, Handle: 9}}}
	l := start(c)
	copy(l[layout.Args(c, 1):], pack.Call(q, 7))
	l[layout.Seq(c, 1)] = 2
	want := text([]api.Op{{Thread: 1, Seq: 2, Phase: 7, Req: q}})
	got, again := inspect.Announced(c, l), inspect.Announced(c, l)
	if text(got) != want {
		t.Errorf("%+v", got)
	}
	before := slices.Clone(l[:cap(l)])
	spoil(got[0].Req.Cases, api.Case{Dir: 9})
	if spoil(got, api.Op{}); text(again) != want || !slices.Equal(l[:cap(l)], before) {
		t.Error("memory is shared")
	}
}

func TestGuards_P31_3(t *testing.T) {
	l := start(queue)
	for _, x := range []struct {
		words [2]uint64
		want  [2]api.Ref
	}{
		{[2]uint64{0, 0}, [2]api.Ref{}},
		{[2]uint64{3<<16 + 5, 0}, [2]api.Ref{{Index: 4, Tag: 3}, {}}},
		{[2]uint64{3 << 16, 1<<16 + 1}, [2]api.Ref{{}, {Index: 0, Tag: 1}}},
		{[2]uint64{5, (1<<32-1)<<16 + 65535}, [2]api.Ref{{}, {Index: 65534, Tag: 1<<32 - 1}}},
		{[2]uint64{math.MaxUint64, 1<<48 + 1}, [2]api.Ref{}},
	} {
		if got := inspect.Guards(queue, with(l, map[int]uint64{15: x.words[0], 16: x.words[1]})); !slices.Equal(got, x.want[:]) {
			t.Errorf("%x: %v", x.words, got)
		}
	}
}

func TestEpochs_P31_3(t *testing.T) {
	l := start(queue)
	for w, want := range map[uint64]int{0: -1, 1: 0, 2: 1, 3: 1, 9: 4, 1 << 63: 1 << 62, math.MaxUint64: math.MaxInt} {
		if got := inspect.Epochs(queue, with(l, map[int]uint64{18: w, 17: 7})); !slices.Equal(got, []int{3, want}) {
			t.Errorf("%x: %d", w, got)
		}
	}
}

func TestMails_P31_3(t *testing.T) {
	l := start(queue)
	all := api.Result{Seq: 1<<20 - 1, Case: 15, Code: 255, Value: 1<<32 - 1}
	got := inspect.Mails(queue, with(l, map[int]uint64{19: math.MaxUint64, 20: 3<<44 | 2<<40 | 14<<32 | 7}))
	if !slices.Equal(got, []api.Result{all, {Seq: 3, Case: 2, Code: api.EPARK, Value: 7}}) {
		t.Error(got)
	}
}

func TestLate_P31_3(t *testing.T) {
	waits := func(seq int) api.Result { return api.Result{Seq: seq, Code: api.EPARK} }
	over := func(seq int) api.Result { return api.Result{Seq: seq, Value: 5} }
	for _, x := range []struct {
		what       string
		mail, done api.Result
		want       bool
	}{
		{"the same", over(3), over(3), false},
		{"an older number", over(2), over(3), true},
		{"a newer number", over(4), over(3), false},
		{"waits still", waits(3), waits(3), false},
		{"waits, and is over", waits(3), over(3), true},
		{"is over, and waited", over(3), waits(3), false},
		{"an older one, and waits", over(2), waits(3), true},
		{"none yet", api.Result{}, waits(1), true},
		{"of the same rank", over(3), api.Result{Seq: 3, Code: api.ECANCEL}, false},
	} {
		for thread := range 2 {
			l := done(start(queue), thread, x.done)
			l[19+thread] = pack.Result(x.mail)
			want := []int{thread}[:map[bool]int{true: 1}[x.want]]
			if got := inspect.Late(queue, l); !slices.Equal(got, want) {
				t.Errorf("%s: %d", x.what, got)
			}
		}
	}
	if got := inspect.Late(queue, done(done(start(queue), 1, over(1)), 0, waits(1))); !slices.Equal(got, []int{0, 1}) {
		t.Error(got)
	}
}

// What one call answers is nobody else's, and the words stay as they are.
func TestApart_P31_1_P31_3(t *testing.T) {
	l := with(start(queue), map[int]uint64{15: 65537, 24: 1 << 44, 26: 1})
	before := slices.Clone(l)
	want := all(queue, l, 0)
	spoil(inspect.Guards(queue, l), api.Ref{Index: 9})
	spoil(inspect.Epochs(queue, l), 9)
	spoil(inspect.Mails(queue, l), api.Result{Seq: 9})
	spoil(inspect.Late(queue, l), 9)
	spoil(inspect.Used(queue, l), 9)
	if all(queue, l, 0) != want || !slices.Equal(l, before) {
		t.Error("memory is shared")
	}
}
