package ghosts_test

import (
	"fmt"
	"math"
	"reflect"
	"slices"
	"testing"

	"stopgate/api"
	"stopgate/ghosts"
)

const kinds = api.GByGuard

func put(node, stamp int) api.Old { return api.Old{Ref: api.Ref{Tag: node}, Stamp: stamp} }

// plain is a world with nil for each empty list, so that worlds can be held against one another.
func plain(w api.World) api.World {
	w.Readers, w.Freed = append([]api.Reader(nil), w.Readers...), append([]int(nil), w.Freed...)
	for i := range w.Readers {
		w.Readers[i].Away = append([]api.Old(nil), w.Readers[i].Away...)
	}
	return w
}

func same(a, b api.World) bool { return reflect.DeepEqual(plain(a), plain(b)) }

// acts is what one thread does, in order.
func acts(thread int, kinds ...int) []api.Act {
	var l []api.Act
	for _, k := range kinds {
		l = append(l, api.Act{Thread: thread, Kind: k})
	}
	return l
}

func TestNew_P38_1(t *testing.T) {
	for n, want := range map[int]int{math.MinInt: 0, -1: 0, 0: 0, 1: 1, 3: 3, 63: 63, 64: 64, 65: 64, 1000: 64, math.MaxInt: 64} {
		w := api.World{Epoch: 1, Root: 1, Last: 1}
		for range want {
			w.Readers = append(w.Readers, api.Reader{In: -1})
		}
		if got := ghosts.New(n); !same(got, w) {
			t.Errorf("New(%d) = %v", n, got)
		}
		if got := ghosts.Play(n, nil); !same(got, w) {
			t.Errorf("Play(%d) of nothing = %v", n, got)
		}
	}
}

// steps is worlds of three threads, what thread 1 does, and what becomes of it: nil: nothing.
var steps = []struct {
	what   string
	kind   int
	before func(w *api.World, r *api.Reader)
	behind func(w *api.World, r *api.Reader)
}{
	{"see", api.GSee, func(w *api.World, r *api.Reader) { r.Saw = 2 }, func(w *api.World, r *api.Reader) { r.Saw = 7 }},
	{"see in an epoch", api.GSee, func(w *api.World, r *api.Reader) { r.In, r.Holds = 6, 5 }, func(w *api.World, r *api.Reader) { r.Saw = 7 }},
	{"enter", api.GEnter, func(w *api.World, r *api.Reader) { r.Saw = 3 }, func(w *api.World, r *api.Reader) { r.In, r.Saw = 3, 0 }},
	{"enter from an In below 0", api.GEnter, func(w *api.World, r *api.Reader) { r.Saw, r.In = 1, -9 }, func(w *api.World, r *api.Reader) { r.In, r.Saw = 1, 0 }},
	{"enter unseen", api.GEnter, func(w *api.World, r *api.Reader) { r.Saw = 0 }, nil},
	{"enter with a Saw below 0", api.GEnter, func(w *api.World, r *api.Reader) { r.Saw = -1 }, nil},
	{"enter twice", api.GEnter, func(w *api.World, r *api.Reader) { r.Saw, r.In = 3, 2 }, nil},
	{"enter from 0", api.GEnter, func(w *api.World, r *api.Reader) { r.Saw, r.In = 3, 0 }, nil},
	{"guard", api.GGuard, func(w *api.World, r *api.Reader) { r.In, r.Guard = 6, 2 }, func(w *api.World, r *api.Reader) { r.Guard = 5 }},
	{"guard in epoch 0", api.GGuard, func(w *api.World, r *api.Reader) { r.In = 0 }, func(w *api.World, r *api.Reader) { r.Guard = 5 }},
	{"guard outside", api.GGuard, func(w *api.World, r *api.Reader) { r.In = -1 }, nil},
	{"guard with an In below 0", api.GGuard, func(w *api.World, r *api.Reader) { r.In = -2 }, nil},
	{"guard while it holds", api.GGuard, func(w *api.World, r *api.Reader) { r.In, r.Guard, r.Holds = 6, 3, 3 }, nil},
	{"hold", api.GHold, func(w *api.World, r *api.Reader) { r.In, r.Guard = 6, 5 }, func(w *api.World, r *api.Reader) { r.Holds = 5 }},
	{"hold what was the root", api.GHold, func(w *api.World, r *api.Reader) { r.In, r.Guard = 6, 4 }, nil},
	{"hold without a guard", api.GHold, func(w *api.World, r *api.Reader) { r.In = 6 }, nil},
	{"hold outside", api.GHold, func(w *api.World, r *api.Reader) { r.Guard, r.Holds = 5, 2 }, func(w *api.World, r *api.Reader) { r.Holds = 5 }},
	{"change", api.GChange, func(w *api.World, r *api.Reader) { r.Guard, r.Holds, r.Away = 5, 5, []api.Old{put(2, 1)} }, func(w *api.World, r *api.Reader) {
		r.Away, w.Root, w.Last = []api.Old{put(2, 1), put(5, 7)}, 10, 10
	}},
	{"change what is not the root", api.GChange, func(w *api.World, r *api.Reader) { r.Guard, r.Holds = 5, 4 }, nil},
	{"change without a hold", api.GChange, func(w *api.World, r *api.Reader) { r.Guard = 5 }, nil},
	{"change a root that is none", api.GChange, func(w *api.World, r *api.Reader) { w.Root = 0 }, nil},
	{"drop", api.GDrop, func(w *api.World, r *api.Reader) { r.In, r.Guard, r.Holds = 6, 5, 4 }, func(w *api.World, r *api.Reader) { r.Guard, r.Holds = 0, 0 }},
	{"drop a guard", api.GDrop, func(w *api.World, r *api.Reader) { r.Guard = 5 }, func(w *api.World, r *api.Reader) { r.Guard = 0 }},
	{"leave", api.GLeave, func(w *api.World, r *api.Reader) { r.In, r.Guard, r.Saw = 6, 5, 3 }, func(w *api.World, r *api.Reader) { r.In, r.Guard = -1, 0 }},
	{"leave while it holds", api.GLeave, func(w *api.World, r *api.Reader) { r.In, r.Guard, r.Holds = 6, 5, 5 }, nil},
	{"advance", api.GAdvance, func(w *api.World, r *api.Reader) {}, func(w *api.World, r *api.Reader) { w.Epoch = 8 }},
	{"advance from an old epoch", api.GAdvance, func(w *api.World, r *api.Reader) { r.In = 3 }, func(w *api.World, r *api.Reader) { w.Epoch = 8 }},
	{"advance with others in it", api.GAdvance, func(w *api.World, r *api.Reader) { w.Readers[0].In, w.Readers[2].In = 7, -3 }, func(w *api.World, r *api.Reader) { w.Epoch = 8 }},
	{"advance with one behind", api.GAdvance, func(w *api.World, r *api.Reader) { w.Readers[0].In, w.Readers[2].In = 7, 6 }, nil},
	{"advance with one ahead", api.GAdvance, func(w *api.World, r *api.Reader) { w.Readers[0].In = 8 }, nil},
	{"advance with one in 0", api.GAdvance, func(w *api.World, r *api.Reader) { w.Readers[2].In = 0 }, nil},
	{"advance while it holds", api.GAdvance, func(w *api.World, r *api.Reader) { r.In, r.Holds = 7, 5 }, nil},
	{"advance while another one holds", api.GAdvance, func(w *api.World, r *api.Reader) { w.Readers[0].In, w.Readers[0].Holds = 7, 5 }, func(w *api.World, r *api.Reader) { w.Epoch = 8 }},
	{"by epoch", api.GByEpoch, func(w *api.World, r *api.Reader) {
		r.Away, w.Readers[0].Away = []api.Old{put(2, 5), put(3, 6), put(4, 1), put(5, -1), put(6, 8)}, []api.Old{put(8, 1)}
	}, func(w *api.World, r *api.Reader) {
		r.Away, w.Freed = []api.Old{put(3, 6), put(5, -1), put(6, 8)}, []int{1, 2, 4}
	}},
	{"by epoch, though guarded", api.GByEpoch, func(w *api.World, r *api.Reader) {
		r.Away, w.Readers[0].Guard = []api.Old{put(2, 5)}, 2
	}, func(w *api.World, r *api.Reader) { r.Away, w.Freed = nil, []int{1, 2} }},
	{"by epoch, of nothing", api.GByEpoch, func(w *api.World, r *api.Reader) { w.Readers[2].Away = []api.Old{put(8, 1)} }, nil},
	{"by guard", api.GByGuard, func(w *api.World, r *api.Reader) {
		r.Away, w.Readers[2].Away = []api.Old{put(2, 7), put(3, 6), put(4, 9), put(6, 7)}, []api.Old{put(8, 1)}
		r.Guard, w.Readers[0].Guard, w.Readers[2].Guard = 3, 6, 8
	}, func(w *api.World, r *api.Reader) {
		r.Away, w.Freed = []api.Old{put(3, 6), put(6, 7)}, []int{1, 2, 4}
	}},
	{"by guard, though held", api.GByGuard, func(w *api.World, r *api.Reader) {
		r.Away, w.Readers[0].Holds = []api.Old{put(2, 7)}, 2
	}, func(w *api.World, r *api.Reader) { r.Away, w.Freed = nil, []int{1, 2} }},
	{"by guard, of nothing", api.GByGuard, func(w *api.World, r *api.Reader) { w.Readers[0].Away = []api.Old{put(8, 1)} }, nil},
	{"kind 0", 0, func(w *api.World, r *api.Reader) {}, nil},
	{"kind -1", -1, func(w *api.World, r *api.Reader) {}, nil},
	{"kind 11", kinds + 1, func(w *api.World, r *api.Reader) {}, nil},
	{"a huge kind", math.MaxInt, func(w *api.World, r *api.Reader) {}, nil},
}

// three is a world of three threads in the midst of it.
func three() api.World {
	return api.World{Epoch: 7, Root: 5, Last: 9, Readers: []api.Reader{{In: -1}, {In: -1}, {In: -1}}, Freed: []int{1}}
}

func TestDo_P38_2(t *testing.T) {
	for _, s := range steps {
		w := three()
		s.before(&w, &w.Readers[1])
		want := plain(w)
		if s.behind != nil {
			s.behind(&want, &want.Readers[1])
		}
		was := plain(w)
		if got := ghosts.Do(w, api.Act{Thread: 1, Kind: s.kind}); !same(got, want) {
			t.Errorf("%s: %v, not %v", s.what, got, want)
		}
		if !same(w, was) {
			t.Errorf("%s: what was handed in is another one: %v", s.what, w)
		}
	}
}

func TestDoOfNobody_P38_2(t *testing.T) {
	for _, w := range []api.World{{}, three(), ghosts.New(0), ghosts.New(3)} {
		for _, thread := range []int{math.MinInt, -1, len(w.Readers), len(w.Readers) + 1, math.MaxInt} {
			for k := -1; k <= kinds+1; k++ {
				if got := ghosts.Do(w, api.Act{Thread: thread, Kind: k}); !same(got, w) {
					t.Errorf("thread %d does %d: %v", thread, k, got)
				}
			}
		}
	}
}

func TestExample_P38_2(t *testing.T) {
	read := []int{api.GSee, api.GEnter, api.GGuard, api.GHold}
	l := slices.Concat(acts(0, read...), acts(1, read...), acts(1, api.GChange, api.GDrop, api.GByGuard))
	w := ghosts.Play(2, l)
	if len(w.Freed) != 0 || w.Root != 2 || ghosts.Away(w) != 1 || !ghosts.Safe(w) {
		t.Fatal(w)
	}
	w = ghosts.Play(2, slices.Concat(l, acts(0, api.GDrop), acts(1, api.GByGuard)))
	if !slices.Equal(w.Freed, []int{1}) || ghosts.Away(w) != 0 || !ghosts.Safe(w) {
		t.Fatal(w)
	}
}

func TestByEpochTakesTwoEpochs_P38_2(t *testing.T) {
	l := acts(0, api.GSee, api.GEnter, api.GGuard, api.GHold, api.GChange, api.GDrop, api.GLeave)
	for n := range 4 {
		w := ghosts.Play(1, slices.Concat(l, slices.Repeat(acts(0, api.GAdvance), n), acts(0, api.GByEpoch)))
		if freed := slices.Equal(w.Freed, []int{1}); freed != (n >= 2) || w.Epoch != 1+n {
			t.Errorf("behind %d epochs: %v", n, w)
		}
	}
}

// rows is rows of acts that are mixed, the same each time, with some that can't be.
func rows(threads, n, seed int) []api.Act {
	var l []api.Act
	x := uint64(seed)
	for range n {
		x = x*6364136223846793005 + 1442695040888963407
		l = append(l, api.Act{Thread: int(x >> 33 % uint64(threads)), Kind: int(x >> 45 % (kinds + 1))})
	}
	return l
}

func TestPlayIsDoOfAll_P38_2(t *testing.T) {
	for seed := range 20 {
		threads := 1 + seed%5
		l := rows(threads, 300, seed)
		kept := slices.Clone(l)
		w := ghosts.New(threads)
		for n, a := range l {
			w = ghosts.Do(w, a)
			if n%50 == 0 && !same(w, ghosts.Play(threads, l[:n+1])) {
				t.Fatalf("seed %d: Play of %d is not Do of them", seed, n+1)
			}
		}
		if !same(w, ghosts.Play(threads, l)) || !slices.Equal(l, kept) {
			t.Fatal(seed)
		}
	}
}

// A long play takes no time that grows with its square.
func TestLongPlay_P38_2(t *testing.T) {
	round := acts(0, api.GSee, api.GEnter, api.GGuard, api.GHold, api.GChange, api.GDrop, api.GByGuard, api.GLeave)
	w := ghosts.Play(64, slices.Repeat(round, 50000))
	if w.Last != 50001 || len(w.Freed) != 50000 || ghosts.Away(w) != 0 || !ghosts.Safe(w) {
		t.Error(w.Last, len(w.Freed))
	}
}

func TestSafe_P38_3(t *testing.T) {
	for _, c := range []struct {
		w    api.World
		want bool
	}{
		{api.World{}, true},
		{ghosts.New(3), true},
		{api.World{Root: 5, Freed: []int{1, 2, 3}}, true},
		{api.World{Root: 5, Freed: []int{1, 2, 3, 1}}, false},
		{api.World{Root: 5, Freed: []int{2, 2}}, false},
		{api.World{Root: 5, Freed: []int{1, 5, 3}}, false},
		{api.World{Root: 5, Freed: []int{1, 2}, Readers: []api.Reader{{Holds: 5}, {Holds: 3}, {}}}, true},
		{api.World{Root: 5, Freed: []int{1, 2}, Readers: []api.Reader{{}, {}, {Holds: 2}}}, false},
		{api.World{Root: 5, Freed: []int{1, 2}, Readers: []api.Reader{{Guard: 2, In: 2, Saw: 1, Away: []api.Old{put(1, 1)}}}}, true},
		{api.World{Root: 5, Last: 2, Epoch: 1, Freed: []int{2, 1, -7}}, true},
		{api.World{Root: -7, Freed: []int{2, 1, -7}}, false},
	} {
		was := plain(c.w)
		if got := ghosts.Safe(c.w); got != c.want {
			t.Errorf("Safe(%v) = %v", c.w, got)
		}
		if !same(c.w, was) {
			t.Errorf("Safe changed %v", c.w)
		}
	}
}

func TestAway_P38_3(t *testing.T) {
	for _, c := range []struct {
		w    api.World
		want int
	}{
		{api.World{}, 0},
		{ghosts.New(64), 0},
		{api.World{Freed: []int{1, 2}, Readers: []api.Reader{{Away: []api.Old{put(1, 1)}}, {}, {Away: []api.Old{put(1, 1), put(0, 0)}}}}, 3},
	} {
		if got := ghosts.Away(c.w); got != c.want {
			t.Errorf("Away(%v) = %d", c.w, got)
		}
	}
}

// holds tells whether what the document says of all worlds that threads lead to holds, by itself.
func holds(w api.World) bool {
	nodes := map[int]int{w.Root: 1}
	for _, n := range w.Freed {
		nodes[n]++
	}
	away := 0
	for _, r := range w.Readers {
		for _, o := range r.Away {
			nodes[o.Ref.Tag]++
			away++
		}
	}
	for n := 1; n <= w.Last; n++ { // each node is in one place
		if nodes[n] != 1 {
			return false
		}
	}
	for _, r := range w.Readers {
		if r.Holds != 0 && slices.Contains(w.Freed, r.Holds) {
			return false
		}
		for _, other := range w.Readers {
			for _, o := range other.Away {
				if o.Ref.Tag == r.Holds && o.Stamp < w.Epoch-1 {
					return false
				}
			}
		}
	}
	return len(nodes) == w.Last && away+len(w.Freed) == w.Last-1 && ghosts.Away(w) == away && ghosts.Safe(w)
}

// Whatever two threads do in a few acts.
func TestAllShortWays_P38_3(t *testing.T) {
	level := []api.World{ghosts.New(2)}
	seen := map[string]bool{}
	for range 11 {
		var next []api.World
		for _, w := range level {
			for i := range 2 * kinds {
				v := ghosts.Do(w, api.Act{Thread: i / kinds, Kind: 1 + i%kinds})
				if key := fmt.Sprint(v); !seen[key] {
					seen[key] = true
					next = append(next, v)
				}
				if !holds(v) {
					t.Fatal(v)
				}
			}
		}
		level = next
	}
	if len(seen) < 1000 {
		t.Error("too few worlds:", len(seen))
	}
}

// Whatever threads do, for long.
func TestLongWays_P38_3(t *testing.T) {
	freed := 0
	for seed := range 60 {
		threads := 1 + seed%6
		w := ghosts.New(threads)
		for _, a := range rows(threads, 1000, 1000+seed) {
			if w = ghosts.Do(w, a); !holds(w) {
				t.Fatal(seed, w)
			}
		}
		freed += len(w.Freed)
	}
	if freed < 100 {
		t.Error("too few nodes were freed:", freed)
	}
}

func TestNewMemory_P38_1_P38_2(t *testing.T) {
	freed := []int{1, 77, 77}
	away := []api.Old{put(2, 1), put(3, 7), put(77, 7), put(77, 7)}
	readers := []api.Reader{{In: -1, Away: away[:2]}, {In: 7, Guard: 5, Holds: 5, Away: away[:2]}, {In: 77}}
	w := api.World{Epoch: 7, Root: 5, Last: 9, Readers: readers[:2], Freed: freed[:1]}
	was, room := plain(w), []any{slices.Clone(freed), slices.Clone(away), slices.Clone(readers)}
	kept := func() bool { return same(w, was) && reflect.DeepEqual(room, []any{freed, away, readers}) }
	answers := []func() api.World{func() api.World { return ghosts.Copy(w) }}
	for i := range 2 {
		for k := 0; k <= kinds+1; k++ {
			answers = append(answers, func() api.World { return ghosts.Do(w, api.Act{Thread: i, Kind: k}) })
		}
	}
	answers = append(answers, func() api.World { return ghosts.Do(w, api.Act{Thread: 9, Kind: 1}) })
	for n, answer := range answers {
		first := plain(answer())
		got := answer()
		if n == 0 && !same(got, w) {
			t.Error("Copy is another world", got)
		}
		for i := range got.Freed[:cap(got.Freed)] {
			got.Freed[:cap(got.Freed)][i] = -5
		}
		spoiled := got.Readers[:cap(got.Readers)]
		for i := range got.Readers {
			l := spoiled[i].Away[:cap(spoiled[i].Away)]
			for j := range l {
				l[j] = put(-5, -5)
			}
			if i == 0 && !slices.Equal(got.Readers[1].Away, first.Readers[1].Away) {
				t.Error(n, "two lists of one answer are one")
			}
		}
		for i := range spoiled {
			spoiled[i].Saw = -5
		}
		if !kept() || !same(answer(), first) {
			t.Error(n, "an answer shares its memory")
		}
	}
}
