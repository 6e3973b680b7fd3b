package lifo_test

import (
	"math"
	"slices"
	"testing"

	"stopgate/api"
	"stopgate/lifo"
)

func put(v int) api.Request { return api.Request{Kind: api.RPut, Value: v} }

func kind(k int) api.Request { return api.Request{Kind: k} }

// equal holds all fields of two rows of cells against one another.
func equal(a, b api.Cells) bool {
	return a.Cap == b.Cap && slices.Equal(a.List, b.List) && slices.Equal(a.Done, b.Done)
}

func TestNew_P9_1(t *testing.T) {
	for _, capacity := range []int{0, 1, 8, 9, -1, math.MaxInt, math.MinInt} {
		for _, threads := range []int{math.MinInt, -1, 0, 1, 2, 63, 64, 65, 1000, math.MaxInt} {
			want := api.Cells{Cap: capacity, Done: make([]api.Result, max(0, min(threads, 64)))}
			if got := lifo.New(capacity, threads); !equal(got, want) {
				t.Errorf("New(%d, %d) = %v", capacity, threads, got)
			}
		}
	}
}

func TestExample_P9_1_P9_2(t *testing.T) {
	c := lifo.Apply(lifo.Apply(lifo.New(4, 1), 0, 1, put(5)), 0, 2, put(6))
	if v, ok := lifo.Top(c); v != 6 || !ok {
		t.Error(v, ok)
	}
	c = lifo.Apply(c, 0, 3, kind(api.RTake))
	if !equal(c, api.Cells{Cap: 4, List: []int{5}, Done: []api.Result{{Seq: 3, Value: 6}}}) {
		t.Error(c)
	}
}

func TestApply_P9_1(t *testing.T) {
	three := []int{7, 8, 9}
	for _, c := range []struct {
		what     string
		capacity int
		list     []int
		q        api.Request
		behind   []int
		r        api.Result // but for its Seq
	}{
		{"put into none", 1, nil, put(5), []int{5}, api.Result{}},
		{"put at the end", 4, three, put(5), []int{7, 8, 9, 5}, api.Result{}},
		{"put into a full one", 3, three, put(5), three, api.Result{Code: api.EBLOCK}},
		{"put into more than full", 2, three, put(5), three, api.Result{Code: api.EBLOCK}},
		{"put without room", 0, nil, put(5), nil, api.Result{Code: api.EBLOCK}},
		{"put with less than no room", math.MinInt, three, put(5), three, api.Result{Code: api.EBLOCK}},
		{"put with all room", math.MaxInt, three, put(math.MinInt), []int{7, 8, 9, math.MinInt}, api.Result{}},
		{"take of none", 1, nil, kind(api.RTake), nil, api.Result{Code: api.EBLOCK}},
		{"take the last", 4, three, kind(api.RTake), three[:2], api.Result{Value: 9}},
		{"take the only one", 4, three[:1], kind(api.RTake), nil, api.Result{Value: 7}},
		{"take beyond capacity", -5, three, kind(api.RTake), three[:2], api.Result{Value: 9}},
		{"take with other fields", 4, three, api.Request{Kind: api.RTake, Arg: 3, Value: 4, Default: true}, three[:2], api.Result{Value: 9}},
		{"length of none", 4, nil, kind(api.RLen), nil, api.Result{}},
		{"length", 4, three, kind(api.RLen), three, api.Result{Value: 3}},
		{"capacity", 4, three, kind(api.RCap), three, api.Result{Value: 4}},
		{"capacity below 0", math.MinInt, nil, kind(api.RCap), nil, api.Result{Value: math.MinInt}},
	} {
		done := []api.Result{{Seq: 3, Case: 1, Code: 2, Value: 4}, {Seq: 5, Case: 6, Code: 7, Value: 8}, {Seq: 9}}
		got := lifo.Apply(api.Cells{Cap: c.capacity, List: c.list, Done: done}, 1, 12, c.q)
		r := c.r
		r.Seq = 12
		if want := (api.Cells{Cap: c.capacity, List: c.behind, Done: []api.Result{done[0], r, done[2]}}); !equal(got, want) {
			t.Errorf("%s: %v, not %v", c.what, got, want)
		}
	}
}

func TestNoSuchCall_P9_1(t *testing.T) {
	for _, k := range []int{0, api.RMake, api.RFree, api.RSelect, api.RClose, api.RCancel, 10, -1, -9, math.MaxInt, math.MinInt} {
		c := api.Cells{Cap: 2, List: []int{7, 8}, Done: []api.Result{{Seq: 3}, {Seq: 4, Value: 5}}}
		got := lifo.Apply(c, 0, 8, api.Request{Kind: k, Value: 9, Arg: 1})
		if !equal(got, api.Cells{Cap: 2, List: []int{7, 8}, Done: []api.Result{{Seq: 8, Code: api.EARG}, {Seq: 4, Value: 5}}}) {
			t.Errorf("kind %d: %v", k, got)
		}
	}
}

// A thread that there is not changes the values as one that there is, and no result is noted.
func TestNoSuchThread_P9_1(t *testing.T) {
	c := api.Cells{Cap: 3, List: []int{7, 8}, Done: []api.Result{{Seq: 3}, {Seq: 4, Value: 5}}}
	for _, thread := range []int{-1, 2, 64, math.MinInt, math.MaxInt} {
		for _, q := range []struct {
			q    api.Request
			list []int
		}{{put(9), []int{7, 8, 9}}, {kind(api.RTake), []int{7}}, {kind(api.RLen), []int{7, 8}}, {kind(0), []int{7, 8}}} {
			if got := lifo.Apply(c, thread, 1, q.q); !equal(got, api.Cells{Cap: 3, List: q.list, Done: c.Done}) {
				t.Errorf("thread %d, %v: %v", thread, q.q, got)
			}
		}
	}
}

// What went in last of all that is there comes out first, and Top tells it ahead.
func TestLastFirst_P9_1_P9_2(t *testing.T) {
	c := lifo.New(5, 2)
	var model []int
	mixed := uint64(3)
	for seq := 1; seq < 2000; seq++ {
		mixed = mixed*6364136223846793005 + 1442695040888963407
		thread, want := int(mixed>>40&1), api.Result{Seq: seq}
		top, there := lifo.Top(c)
		switch put1 := mixed>>50&1 == 0; {
		case put1 && len(model) == 5, !put1 && len(model) == 0:
			want.Code = api.EBLOCK
		case put1:
			model = append(model, seq)
		default:
			want.Value, model = model[len(model)-1], model[:len(model)-1]
			if top != want.Value || !there {
				t.Fatal(seq, top, there)
			}
		}
		if mixed>>50&1 == 0 {
			c = lifo.Apply(c, thread, seq, put(seq))
		} else {
			c = lifo.Apply(c, thread, seq, kind(api.RTake))
		}
		if c.Done[thread] != want || !slices.Equal(c.List, model) {
			t.Fatal(seq, c, model)
		}
	}
}

func TestTop_P9_2(t *testing.T) {
	for _, c := range []struct {
		list []int
		v    int
		ok   bool
	}{
		{nil, 0, false},
		{[]int{}, 0, false},
		{[]int{5, 6}[:0], 0, false},
		{[]int{0}, 0, true},
		{[]int{5}, 5, true},
		{[]int{5, 6, -7}, -7, true},
		{[]int{5, 6, -7}[:2], 6, true},
	} {
		if v, ok := lifo.Top(api.Cells{Cap: -1, List: c.list}); v != c.v || ok != c.ok {
			t.Errorf("Top of %v: %d, %v", c.list, v, ok)
		}
	}
}

func TestTurned_P9_2(t *testing.T) {
	done := []api.Result{{Seq: 3, Case: 1, Code: 2, Value: 4}, {Seq: 5}}
	for _, c := range []struct{ list, want []int }{
		{nil, nil},
		{[]int{}, nil},
		{[]int{1}, []int{1}},
		{[]int{1, 2}, []int{2, 1}},
		{[]int{1, 2, 3}, []int{3, 2, 1}},
		{[]int{1, 2, 2, 4, 5, 6}, []int{6, 5, 4, 2, 2, 1}},
	} {
		for _, capacity := range []int{2, -1, math.MaxInt} {
			got := lifo.Turned(api.Cells{Cap: capacity, List: c.list, Done: done})
			if !equal(got, api.Cells{Cap: capacity, List: c.want, Done: done}) {
				t.Errorf("%v turned: %v", c.list, got)
			}
		}
	}
	if got := lifo.Turned(api.Cells{}); !equal(got, api.Cells{}) {
		t.Error(got)
	}
}

// spoil writes into all of a list, the room behind its end included.
func spoil[T any](l []T, with T) {
	l = l[:cap(l)]
	for i := range l {
		l[i] = with
	}
}

func TestNewMemory_P9_1_P9_2(t *testing.T) {
	for what, call := range map[string]func(c api.Cells) api.Cells{
		"new":    func(c api.Cells) api.Cells { return lifo.New(2, 2) },
		"put":    func(c api.Cells) api.Cells { return lifo.Apply(c, 0, 4, put(5)) },
		"take":   func(c api.Cells) api.Cells { return lifo.Apply(c, 0, 4, kind(api.RTake)) },
		"nobody": func(c api.Cells) api.Cells { return lifo.Apply(c, -1, 4, kind(api.RTake)) },
		"none":   func(c api.Cells) api.Cells { return lifo.Apply(c, 0, 4, kind(0)) },
		"turned": lifo.Turned,
	} {
		list, done := []int{7, 8, 70, 80}, []api.Result{{Seq: 1}, {Seq: 2}, {Seq: 3}}
		c := api.Cells{Cap: 8, List: list[:2], Done: done[:2]}
		got, again := call(c), call(c)
		spoil(got.List, -1)
		spoil(got.Done, api.Result{Seq: -1})
		if !slices.Equal(list, []int{7, 8, 70, 80}) || !slices.Equal(done, []api.Result{{Seq: 1}, {Seq: 2}, {Seq: 3}}) {
			t.Errorf("%s: %v, %v", what, list, done)
		}
		if slices.Contains(again.List, -1) || slices.Contains(again.Done, api.Result{Seq: -1}) {
			t.Errorf("%s: two answers share memory", what)
		}
	}
}
