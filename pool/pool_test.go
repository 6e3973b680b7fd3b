package pool_test

import (
	"math"
	"slices"
	"testing"

	"stopgate/api"
	"stopgate/pool"
)

func slot(index, tag int) api.Slot { return api.Slot{Index: index, Tag: tag} }

func name(index, tag int) api.Ref { return api.Ref{Index: index, Tag: tag} }

func old(index, tag, stamp int) api.Old { return api.Old{Ref: name(index, tag), Stamp: stamp} }

// equal holds all fields of two pools against one another, by itself: pool.Same is held to it.
func equal(a, b api.Pool) bool {
	return a.Own.Index == b.Own.Index && a.Own.Tag == b.Own.Tag && a.Spent == b.Spent && slices.Equal(a.Free, b.Free) && slices.Equal(a.Old, b.Old)
}

func all(api.Old) bool { return true }

func none(api.Old) bool { return false }

func TestNew_P5_1(t *testing.T) {
	for _, from := range []int{0, 1, 4, -3, 65530, math.MaxInt, math.MaxInt - 10, math.MinInt} {
		for _, n := range []int{math.MinInt, -1, 0, 1, 2, 63, 64, 65, 1000, math.MaxInt} {
			p := pool.New(from, n)
			if want := max(0, min(n, 64)); len(p.Free) != want || p.Own != (api.Ref{}) || len(p.Old) != 0 || p.Spent != 0 {
				t.Errorf("New(%d, %d) = %v", from, n, p)
			}
			for i, s := range p.Free {
				if s != slot(from+i, 0) {
					t.Errorf("New(%d, %d): the node at %d is %v", from, n, i, s)
				}
			}
		}
	}
}

func TestTake_P5_2(t *testing.T) {
	olds := []api.Old{old(9, 9, 9)}
	for _, c := range []struct {
		what string
		p    api.Pool
		tags int
		want api.Pool
		ok   bool
	}{
		{"example", api.Pool{Free: []api.Slot{slot(4, 0), slot(5, 0)}}, 9, api.Pool{Own: name(4, 1), Free: []api.Slot{slot(5, 0)}}, true},
		{"one more tag", api.Pool{Free: []api.Slot{slot(4, 6), slot(5, 0)}, Old: olds, Spent: 3}, 7, api.Pool{Own: name(4, 7), Free: []api.Slot{slot(5, 0)}, Old: olds, Spent: 3}, true},
		{"own is there", api.Pool{Own: name(7, 2), Free: []api.Slot{slot(4, 0)}, Spent: 1}, 9, api.Pool{Own: name(7, 2), Free: []api.Slot{slot(4, 0)}, Spent: 1}, true},
		{"own is there, beyond tags", api.Pool{Own: name(7, 2), Free: []api.Slot{slot(4, 0)}}, 0, api.Pool{Own: name(7, 2), Free: []api.Slot{slot(4, 0)}}, true},
		{"own of a tag below 0", api.Pool{Own: name(7, -2)}, 9, api.Pool{Own: name(7, -2)}, true},
		{"own of tag 0 is none", api.Pool{Own: name(7, 0), Free: []api.Slot{slot(4, 0)}}, 9, api.Pool{Own: name(4, 1)}, true},
		{"one is withdrawn", api.Pool{Free: []api.Slot{slot(1, 1), slot(2, 0)}}, 1, api.Pool{Own: name(2, 1), Spent: 1}, true},
		{"two are withdrawn", api.Pool{Free: []api.Slot{slot(1, 1), slot(6, 5), slot(2, 0), slot(3, 1)}, Spent: 2}, 1, api.Pool{Own: name(2, 1), Free: []api.Slot{slot(3, 1)}, Spent: 4}, true},
		{"all are withdrawn", api.Pool{Free: []api.Slot{slot(1, 1), slot(2, 1)}, Old: olds}, 1, api.Pool{Old: olds, Spent: 2}, false},
		{"nothing", api.Pool{}, 9, api.Pool{}, false},
		{"nothing but old ones", api.Pool{Old: olds, Spent: 5}, 9, api.Pool{Old: olds, Spent: 5}, false},
		{"no tags", api.Pool{Free: []api.Slot{slot(1, 0)}}, 0, api.Pool{Spent: 1}, false},
		{"tags below 0", api.Pool{Free: []api.Slot{slot(1, 0)}}, math.MinInt, api.Pool{Spent: 1}, false},
		{"the last tag", api.Pool{Free: []api.Slot{slot(1, api.MaxTags-1)}}, math.MaxInt, api.Pool{Own: name(1, api.MaxTags)}, true},
		{"beyond the last tag", api.Pool{Free: []api.Slot{slot(1, api.MaxTags)}}, math.MaxInt, api.Pool{Spent: 1}, false},
		{"names that may not be", api.Pool{Free: []api.Slot{slot(-1, 0), slot(65535, 0), slot(3, -1), slot(65534, 0)}}, 9, api.Pool{Own: name(65534, 1), Spent: 3}, true},
	} {
		got, ok := pool.Take(c.p, c.tags)
		if ok != c.ok || !equal(got, c.want) {
			t.Errorf("%s: Take(%v, %d) = %v, %v, not %v", c.what, c.p, c.tags, got, ok, c.want)
		}
	}
}

// Taken, put away and freed on and on, each node has each tag once, in order, and is withdrawn then.
func TestTakeTillAllAreSpent_P5_2_P5_3(t *testing.T) {
	const nodes, tags = 3, 4
	p := pool.New(10, nodes)
	last := map[int]int{}
	for n := range nodes * tags {
		var ok bool
		if p, ok = pool.Take(p, tags); !ok || pool.Why(p) != api.OK {
			t.Fatal(n, p)
		}
		if last[p.Own.Index]++; last[p.Own.Index] != p.Own.Tag {
			t.Fatalf("%d: %v, whose last tag was %d", n, p.Own, last[p.Own.Index]-1)
		}
		if got := pool.Count(p) + p.Spent; got != nodes {
			t.Fatalf("%d: %d nodes", n, got)
		}
		p, _ = pool.Back(pool.Away(pool.Leave(p), p.Own, n), all)
	}
	p, ok := pool.Take(p, tags)
	if ok || !equal(p, api.Pool{Spent: nodes}) || pool.Why(p) != api.ETAG {
		t.Error(p, ok)
	}
}

func TestLeave_P5_2(t *testing.T) {
	p := api.Pool{Own: name(7, 2), Free: []api.Slot{slot(4, 1)}, Old: []api.Old{old(1, 2, 3)}, Spent: 2}
	want := p
	want.Own = api.Ref{}
	if got := pool.Leave(p); !equal(got, want) {
		t.Error(got)
	}
	if got := pool.Leave(api.Pool{Own: name(7, 0)}); !equal(got, api.Pool{}) {
		t.Error(got)
	}
}

func TestAway_P5_2(t *testing.T) {
	p := api.Pool{Own: name(7, 2), Free: []api.Slot{slot(4, 1)}, Spent: 2}
	var olds []api.Old
	for _, o := range []api.Old{old(1, 2, 3), old(0, 1, 3), old(0, 1, 3), old(-1, 0, -5), old(math.MaxInt, math.MinInt, math.MaxInt)} {
		p = pool.Away(p, o.Ref, o.Stamp)
		olds = append(olds, o)
		if !equal(p, api.Pool{Own: name(7, 2), Free: []api.Slot{slot(4, 1)}, Old: olds, Spent: 2}) {
			t.Fatal(p)
		}
	}
}

func TestBack_P5_3(t *testing.T) {
	olds := []api.Old{old(1, 2, 3), old(4, 5, 6), old(7, -8, 9), old(-1, 0, 6), old(4, 5, 6)}
	p := api.Pool{Own: name(3, 3), Free: []api.Slot{slot(2, 2), slot(9, 0)}, Old: olds, Spent: 4}
	for _, c := range []struct {
		what string
		test func(api.Old) bool
		free []api.Slot // behind those of p
		olds []api.Old
	}{
		{"all", all, []api.Slot{slot(1, 2), slot(4, 5), slot(7, -8), slot(-1, 0), slot(4, 5)}, nil},
		{"none", none, nil, olds},
		{"no test", nil, nil, olds},
		{"by stamp", func(o api.Old) bool { return o.Stamp == 6 }, []api.Slot{slot(4, 5), slot(-1, 0), slot(4, 5)}, []api.Old{olds[0], olds[2]}},
		{"by name", func(o api.Old) bool { return o.Ref != name(4, 5) }, []api.Slot{slot(1, 2), slot(7, -8), slot(-1, 0)}, []api.Old{olds[1], olds[4]}},
		{"one that panics", func(api.Old) bool { panic("no answer") }, nil, olds},
		{"one that panics at one", func(o api.Old) bool { return 1/(o.Stamp-9) == 0 }, []api.Slot{slot(1, 2), slot(4, 5), slot(-1, 0), slot(4, 5)}, olds[2:3]},
	} {
		got, n := pool.Back(p, c.test)
		want := api.Pool{Own: p.Own, Free: append(slices.Clone(p.Free), c.free...), Old: c.olds, Spent: 4}
		if n != len(c.free) || !equal(got, want) {
			t.Errorf("%s: %v, %d, not %v", c.what, got, n, want)
		}
	}
}

// The test is asked of each node once, in order; of none, if none is put away.
func TestBackAsks_P5_3(t *testing.T) {
	olds := []api.Old{old(1, 2, 3), old(4, 5, 6), old(7, 8, 9)}
	var asked []api.Old
	pool.Back(api.Pool{Free: []api.Slot{slot(1, 1)}, Old: olds}, func(o api.Old) bool {
		asked = append(asked, o)
		return len(asked) == 2
	})
	if !slices.Equal(asked, olds) {
		t.Error(asked)
	}
	if got, n := pool.Back(api.Pool{Spent: 1}, func(api.Old) bool { t.Error("asked of nothing"); return true }); n != 0 || !equal(got, api.Pool{Spent: 1}) {
		t.Error(got, n)
	}
}

func TestCountWhyNames_P5_3(t *testing.T) {
	for _, c := range []struct {
		p     api.Pool
		why   api.Errno
		names []int
	}{
		{api.Pool{}, api.ETAG, nil},
		{api.Pool{Spent: 7}, api.ETAG, nil},
		{api.Pool{Own: name(5, 0)}, api.ETAG, nil},
		{api.Pool{Own: name(5, 1)}, api.OK, []int{5}},
		{api.Pool{Own: name(5, -1)}, api.OK, []int{5}},
		{api.Pool{Free: []api.Slot{{}}}, api.OK, []int{0}},
		{api.Pool{Free: []api.Slot{slot(8, api.MaxTags)}, Old: []api.Old{{}}}, api.OK, []int{8, 0}},
		{api.Pool{Old: []api.Old{{}}}, api.ENOMEM, []int{0}},
		{api.Pool{Own: name(5, 0), Old: []api.Old{old(1, 2, 3)}, Spent: 2}, api.ENOMEM, []int{1}},
		{api.Pool{Own: name(5, 1), Old: []api.Old{old(1, 2, 3)}}, api.OK, []int{5, 1}},
		{api.Pool{Own: name(9, 1), Free: []api.Slot{slot(7, 1), slot(-2, 0)}, Old: []api.Old{old(8, 2, 3), old(7, 1, 1), old(0, 0, 0)}, Spent: 9}, api.OK, []int{9, 7, -2, 8, 7, 0}},
		{pool.New(3, 4), api.OK, []int{3, 4, 5, 6}},
	} {
		if got := pool.Count(c.p); got != len(c.names) {
			t.Errorf("Count(%v) = %d", c.p, got)
		}
		if got := pool.Why(c.p); got != c.why {
			t.Errorf("Why(%v) = %d, not %d", c.p, got, c.why)
		}
		if got := pool.Names(c.p); !slices.Equal(got, c.names) {
			t.Errorf("Names(%v) = %v, not %v", c.p, got, c.names)
		}
	}
}

func TestSame_P5_3(t *testing.T) {
	full := func() api.Pool {
		return api.Pool{Own: name(9, 1), Free: []api.Slot{slot(7, 1), slot(6, 0)}, Old: []api.Old{old(8, 2, 3), old(5, 1, 4)}, Spent: 2}
	}
	unlike := []func(p *api.Pool){
		func(p *api.Pool) {},
		func(p *api.Pool) { p.Own.Index++ },
		func(p *api.Pool) { p.Own.Tag++ },
		func(p *api.Pool) { p.Own = api.Ref{} },
		func(p *api.Pool) { p.Own = name(1, 0) },
		func(p *api.Pool) { p.Free[0].Index++ },
		func(p *api.Pool) { p.Free[1].Tag++ },
		func(p *api.Pool) { p.Free = p.Free[:1] },
		func(p *api.Pool) { p.Free = nil },
		func(p *api.Pool) { p.Free[0], p.Free[1] = p.Free[1], p.Free[0] },
		func(p *api.Pool) { p.Old[0].Ref.Index++ },
		func(p *api.Pool) { p.Old[1].Ref.Tag++ },
		func(p *api.Pool) { p.Old[1].Stamp++ },
		func(p *api.Pool) { p.Old = p.Old[1:] },
		func(p *api.Pool) { p.Old = nil },
		func(p *api.Pool) { p.Old[0], p.Old[1] = p.Old[1], p.Old[0] },
		func(p *api.Pool) { p.Spent++ },
		func(p *api.Pool) { *p = api.Pool{} },
	}
	for i, f := range unlike {
		for j, g := range unlike {
			a, b := full(), full()
			f(&a)
			g(&b)
			if got := pool.Same(a, b); got != (i == j) {
				t.Errorf("Same(%v, %v) = %v", a, b, got)
			}
		}
	}
	if !pool.Same(api.Pool{Free: []api.Slot{}, Old: []api.Old{}}, api.Pool{}) {
		t.Error("a nil list and an empty one are not the same")
	}
}

// roomy is a pool whose lists have spare room, and what tells whether that room, or the lists, were changed.
func roomy() (api.Pool, func() bool) {
	free, olds := make([]api.Slot, 8), make([]api.Old, 8)
	for i := range 8 {
		free[i], olds[i] = slot(i, i), old(10+i, i+1, i)
	}
	were, oldsWere := slices.Clone(free), slices.Clone(olds)
	p := api.Pool{Free: free[:3], Old: olds[:3], Spent: 1}
	return p, func() bool { return slices.Equal(free, were) && slices.Equal(olds, oldsWere) }
}

// No call changes what it was handed, room behind the lists too, and none of its answer's lists is the argument's, or another's.
func TestNewMemory_P5_2_P5_3(t *testing.T) {
	for what, call := range map[string]func(p api.Pool) api.Pool{
		"Take":      func(p api.Pool) api.Pool { p, _ = pool.Take(p, 9); return p },
		"Take none": func(p api.Pool) api.Pool { p, _ = pool.Take(p, 0); return p },
		"Take own":  func(p api.Pool) api.Pool { p.Own = name(1, 1); p, _ = pool.Take(p, 9); return p },
		"Leave":     pool.Leave,
		"Away":      func(p api.Pool) api.Pool { return pool.Away(p, name(77, 7), 7) },
		"Back":      func(p api.Pool) api.Pool { p, _ = pool.Back(p, func(o api.Old) bool { return o.Stamp == 1 }); return p },
		"Back all":  func(p api.Pool) api.Pool { p, _ = pool.Back(p, all); return p },
		"Back none": func(p api.Pool) api.Pool { p, _ = pool.Back(p, none); return p },
		"Back nil":  func(p api.Pool) api.Pool { p, _ = pool.Back(p, nil); return p },
	} {
		p, kept := roomy()
		got := call(p)
		if !kept() {
			t.Errorf("%s changed what it was handed", what)
		}
		again := call(p)
		for _, l := range [][]api.Slot{got.Free, got.Free[:cap(got.Free)]} {
			for i := range l {
				l[i] = slot(-5, -5)
			}
		}
		for _, l := range [][]api.Old{got.Old, got.Old[:cap(got.Old)]} {
			for i := range l {
				l[i] = old(-5, -5, -5)
			}
		}
		if !kept() {
			t.Errorf("%s shares a list with what it was handed", what)
		}
		if !equal(again, call(p)) {
			t.Errorf("%s shares a list with another answer", what)
		}
	}
	p := pool.New(0, 3)
	p.Free[0] = slot(9, 9)
	if q := pool.New(0, 3); q.Free[0] != slot(0, 0) {
		t.Error("New shares its list")
	}
}
