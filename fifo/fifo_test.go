package fifo_test

import (
	"math"
	"slices"
	"testing"

	"stopgate/api"
	"stopgate/fifo"
)

func put(v int) api.Request { return api.Request{Kind: api.RPut, Value: v} }

func kind(k int) api.Request { return api.Request{Kind: k} }

// equal holds all fields of two rows of cells against one another, by itself: fifo.Same is held to it.
func equal(a, b api.Cells) bool {
	if a.Cap != b.Cap || len(a.List) != len(b.List) || len(a.Done) != len(b.Done) {
		return false
	}
	for i, v := range a.List {
		if v != b.List[i] {
			return false
		}
	}
	for i, r := range a.Done {
		s := b.Done[i]
		if r.Seq != s.Seq || r.Case != s.Case || r.Code != s.Code || r.Value != s.Value {
			return false
		}
	}
	return true
}

func TestNew_P8_1(t *testing.T) {
	for _, capacity := range []int{0, 1, 8, 9, -1, math.MaxInt, math.MinInt} {
		for _, threads := range []int{math.MinInt, -1, 0, 1, 2, 63, 64, 65, 1000, math.MaxInt} {
			c := fifo.New(capacity, threads)
			if want := max(0, min(threads, 64)); c.Cap != capacity || len(c.List) != 0 || len(c.Done) != want {
				t.Errorf("New(%d, %d) = %v", capacity, threads, c)
			}
			for i, r := range c.Done {
				if r != (api.Result{}) {
					t.Errorf("New(%d, %d): the result at %d is %v", capacity, threads, i, r)
				}
			}
		}
	}
}

func TestExample_P8_2(t *testing.T) {
	c := fifo.Apply(fifo.New(1, 2), 0, 1, put(5))
	if !equal(c, api.Cells{Cap: 1, List: []int{5}, Done: []api.Result{{Seq: 1}, {}}}) {
		t.Error(c)
	}
	c = fifo.Apply(c, 1, 1, put(6))
	if !equal(c, api.Cells{Cap: 1, List: []int{5}, Done: []api.Result{{Seq: 1}, {Seq: 1, Code: api.EBLOCK}}}) {
		t.Error(c)
	}
	c = fifo.Apply(c, 0, 2, kind(api.RTake))
	if !equal(c, api.Cells{Cap: 1, Done: []api.Result{{Seq: 2, Value: 5}, {Seq: 1, Code: api.EBLOCK}}}) {
		t.Error(c)
	}
}

func TestApply_P8_2(t *testing.T) {
	three := []int{7, 8, 9}
	for _, c := range []struct {
		what     string
		capacity int
		list     []int
		q        api.Request
		behind   []int
		r        api.Result // but for its Seq
	}{
		{"put into none", 1, nil, put(5), []int{5}, api.Result{}},
		{"put at the end", 4, three, put(5), []int{7, 8, 9, 5}, api.Result{}},
		{"put the last one", 3, three[:2], put(5), []int{7, 8, 5}, api.Result{}},
		{"put into a full one", 3, three, put(5), three, api.Result{Code: api.EBLOCK}},
		{"put into more than full", 2, three, put(5), three, api.Result{Code: api.EBLOCK}},
		{"put without room", 0, nil, put(5), nil, api.Result{Code: api.EBLOCK}},
		{"put with less than no room", -1, nil, put(5), nil, api.Result{Code: api.EBLOCK}},
		{"put with far less than no room", math.MinInt, three, put(5), three, api.Result{Code: api.EBLOCK}},
		{"put with all room", math.MaxInt, three, put(math.MinInt), []int{7, 8, 9, math.MinInt}, api.Result{}},
		{"put beyond a value", 8, nil, put(math.MaxInt), []int{math.MaxInt}, api.Result{}},
		{"put with other fields", 8, three, api.Request{Kind: api.RPut, Arg: 3, Value: 4, Default: true, Cases: []api.Case{{Dir: 1, Handle: 2, Value: 3}}}, []int{7, 8, 9, 4}, api.Result{}},
		{"take of none", 1, nil, kind(api.RTake), nil, api.Result{Code: api.EBLOCK}},
		{"take the first", 4, three, kind(api.RTake), three[1:], api.Result{Value: 7}},
		{"take the only one", 4, three[2:], kind(api.RTake), nil, api.Result{Value: 9}},
		{"take beyond capacity", -5, three, kind(api.RTake), three[1:], api.Result{Value: 7}},
		{"take with other fields", 4, three, api.Request{Kind: api.RTake, Arg: 3, Value: 4, Default: true}, three[1:], api.Result{Value: 7}},
		{"length of none", 4, nil, kind(api.RLen), nil, api.Result{}},
		{"length", 4, three, kind(api.RLen), three, api.Result{Value: 3}},
		{"length beyond capacity", 1, three, kind(api.RLen), three, api.Result{Value: 3}},
		{"capacity", 4, three, kind(api.RCap), three, api.Result{Value: 4}},
		{"capacity below 0", math.MinInt, nil, kind(api.RCap), nil, api.Result{Value: math.MinInt}},
	} {
		done := []api.Result{{Seq: 3, Case: 1, Code: 2, Value: 4}, {Seq: 5, Case: 6, Code: 7, Value: 8}, {Seq: 9}}
		got := fifo.Apply(api.Cells{Cap: c.capacity, List: c.list, Done: done}, 1, 12, c.q)
		r := c.r
		r.Seq = 12
		if want := (api.Cells{Cap: c.capacity, List: c.behind, Done: []api.Result{done[0], r, done[2]}}); !equal(got, want) {
			t.Errorf("%s: %v, not %v", c.what, got, want)
		}
	}
}

func TestNoSuchCall_P8_2(t *testing.T) {
	for _, k := range []int{0, api.RMake, api.RFree, api.RSelect, api.RClose, api.RCancel, 10, 11, -1, -8, math.MaxInt, math.MinInt} {
		c := api.Cells{Cap: 2, List: []int{7}, Done: []api.Result{{Seq: 3}, {Seq: 4, Value: 5}}}
		got := fifo.Apply(c, 0, 8, api.Request{Kind: k, Value: 9, Arg: 1})
		if !equal(got, api.Cells{Cap: 2, List: []int{7}, Done: []api.Result{{Seq: 8, Code: api.EARG}, {Seq: 4, Value: 5}}}) {
			t.Errorf("kind %d: %v", k, got)
		}
	}
}

// A thread that there is not changes the values as one that there is, and no result is noted.
func TestNoSuchThread_P8_2(t *testing.T) {
	c := api.Cells{Cap: 2, List: []int{7}, Done: []api.Result{{Seq: 3}, {Seq: 4, Value: 5}}}
	for _, thread := range []int{-1, 2, 3, 64, math.MinInt, math.MaxInt} {
		for _, q := range []struct {
			q    api.Request
			list []int
		}{{put(8), []int{7, 8}}, {kind(api.RTake), nil}, {kind(api.RLen), []int{7}}, {kind(api.RCap), []int{7}}, {kind(0), []int{7}}} {
			if got := fifo.Apply(c, thread, 1, q.q); !equal(got, api.Cells{Cap: 2, List: q.list, Done: c.Done}) {
				t.Errorf("thread %d, %v: %v", thread, q.q, got)
			}
		}
	}
	if got := fifo.Apply(api.Cells{Cap: 1}, 0, 1, put(8)); !equal(got, api.Cells{Cap: 1, List: []int{8}}) {
		t.Error(got)
	}
	many := api.Cells{Cap: 1, Done: make([]api.Result, 70)}
	if got := fifo.Apply(many, 69, 1, kind(api.RCap)); len(got.Done) != 70 || got.Done[69] != (api.Result{Seq: 1, Value: 1}) {
		t.Error(got)
	}
}

func TestAnySeq_P8_2(t *testing.T) {
	for _, seq := range []int{0, 1, -1, api.MaxSeqs, api.MaxSeqs + 1, math.MinInt, math.MaxInt} {
		for _, q := range []api.Request{put(8), kind(api.RTake), kind(0)} {
			if got := fifo.Apply(fifo.New(0, 1), 0, seq, q); len(got.Done) != 1 || got.Done[0].Seq != seq {
				t.Errorf("%d, %v: %v", seq, q, got)
			}
		}
	}
}

// What goes in comes out in that order, and never more is in it than its capacity.
func TestInOrder_P8_2(t *testing.T) {
	c := fifo.New(3, 2)
	next, first, mixed := 1, 1, uint64(5)
	for seq := 1; seq < 2000; seq++ {
		mixed = mixed*6364136223846793005 + 1442695040888963407
		thread := int(mixed >> 40 & 1)
		if mixed>>50&1 == 0 {
			full := next-first == 3
			c = fifo.Apply(c, thread, seq, put(next))
			if (c.Done[thread].Code == api.EBLOCK) != full {
				t.Fatal(seq, c)
			}
			if !full {
				next++
			}
		} else {
			want := api.Result{Seq: seq, Value: first}
			if next == first {
				want = api.Result{Seq: seq, Code: api.EBLOCK}
			} else {
				first++
			}
			c = fifo.Apply(c, thread, seq, kind(api.RTake))
			if c.Done[thread] != want {
				t.Fatal(seq, c)
			}
		}
		if len(c.List) != next-first {
			t.Fatal(seq, c)
		}
	}
}

func TestSame_P8_3(t *testing.T) {
	one := func() api.Cells {
		return api.Cells{Cap: 2, List: []int{7, 8}, Done: []api.Result{{Seq: 1, Case: 2, Code: 3, Value: 4}, {Seq: 5}}}
	}
	if !fifo.Same(one(), one()) || !fifo.Same(api.Cells{}, api.Cells{}) {
		t.Error("not the same")
	}
	if !fifo.Same(api.Cells{List: []int{}, Done: []api.Result{}}, api.Cells{}) {
		t.Error("empty lists are nil ones")
	}
	roomy := one()
	roomy.List = slices.Grow(roomy.List, 20)
	if !fifo.Same(roomy, one()) {
		t.Error("room is no field")
	}
	for what, change := range map[string]func(c *api.Cells){
		"cap":             func(c *api.Cells) { c.Cap++ },
		"first value":     func(c *api.Cells) { c.List[0]++ },
		"last value":      func(c *api.Cells) { c.List[1]++ },
		"values turned":   func(c *api.Cells) { slices.Reverse(c.List) },
		"one value less":  func(c *api.Cells) { c.List = c.List[:1] },
		"one value more":  func(c *api.Cells) { c.List = append(c.List, 0) },
		"no values":       func(c *api.Cells) { c.List = nil },
		"seq":             func(c *api.Cells) { c.Done[0].Seq++ },
		"case":            func(c *api.Cells) { c.Done[0].Case++ },
		"code":            func(c *api.Cells) { c.Done[0].Code++ },
		"value":           func(c *api.Cells) { c.Done[0].Value++ },
		"last result":     func(c *api.Cells) { c.Done[1].Code++ },
		"one result less": func(c *api.Cells) { c.Done = c.Done[:1] },
		"one result more": func(c *api.Cells) { c.Done = append(c.Done, api.Result{}) },
		"no results":      func(c *api.Cells) { c.Done = nil },
	} {
		c := one()
		change(&c)
		if fifo.Same(c, one()) || fifo.Same(one(), c) {
			t.Errorf("%s: the same", what)
		}
	}
}

func TestSegments_P8_3(t *testing.T) {
	five := []int{1, 2, 3, 4, 5}
	ones := [][]int{{1}, {2}, {3}, {4}, {5}}
	for _, c := range []struct {
		list []int
		size int
		want [][]int
	}{
		{five, 2, [][]int{{1, 2}, {3, 4}, {5}}},
		{five, 3, [][]int{{1, 2, 3}, {4, 5}}},
		{five, 4, [][]int{{1, 2, 3, 4}, {5}}},
		{five, 5, [][]int{five}},
		{five, 6, [][]int{five}},
		{five, math.MaxInt, [][]int{five}},
		{five, 1, ones},
		{five, 0, ones},
		{five, -1, ones},
		{five, math.MinInt, ones},
		{five[:4], 2, [][]int{{1, 2}, {3, 4}}},
		{nil, 2, nil},
		{nil, 0, nil},
		{[]int{}, math.MaxInt, nil},
	} {
		got := fifo.Segments(api.Cells{Cap: 1, List: c.list, Done: make([]api.Result, 3)}, c.size)
		if !slices.EqualFunc(got, c.want, slices.Equal[[]int]) {
			t.Errorf("Segments(%v, %d) = %v", c.list, c.size, got)
		}
	}
}

// spoil writes into all of a list, the room behind its end included.
func spoil[T any](l []T, with T) {
	l = l[:cap(l)]
	for i := range l {
		l[i] = with
	}
}

func TestNewMemory_P8_1(t *testing.T) {
	a, b := fifo.New(2, 3), fifo.New(2, 3)
	spoil(a.List, -1)
	spoil(a.Done, api.Result{Seq: -1})
	if !equal(b, api.Cells{Cap: 2, Done: make([]api.Result, 3)}) {
		t.Error(b)
	}
}

func TestNewMemory_P8_2(t *testing.T) {
	for _, q := range []api.Request{put(5), kind(api.RTake), kind(api.RLen), kind(0)} {
		for _, thread := range []int{0, 9} {
			list, done := []int{7, 8, 70, 80}, []api.Result{{Seq: 1}, {Seq: 2}, {Seq: 3}}
			c := api.Cells{Cap: 8, List: list[:2], Done: done[:2]}
			got, again := fifo.Apply(c, thread, 4, q), fifo.Apply(c, thread, 4, q)
			if !slices.Equal(list, []int{7, 8, 70, 80}) || !slices.Equal(done, []api.Result{{Seq: 1}, {Seq: 2}, {Seq: 3}}) {
				t.Errorf("%v changed %v, %v", q, list, done)
			}
			spoil(got.List, -1)
			spoil(got.Done, api.Result{Seq: -1})
			if !slices.Equal(list, []int{7, 8, 70, 80}) || !slices.Equal(done, []api.Result{{Seq: 1}, {Seq: 2}, {Seq: 3}}) {
				t.Errorf("%v shares %v, %v", q, list, done)
			}
			if slices.Contains(again.List, -1) || slices.Contains(again.Done, api.Result{Seq: -1}) {
				t.Errorf("%v: two answers share memory", q)
			}
		}
	}
}

func TestNewMemory_P8_3(t *testing.T) {
	list := []int{1, 2, 3, 4, 5, 6}
	c := api.Cells{List: list[:5]}
	for _, size := range []int{1, 2, 5, 9} {
		got, again := fifo.Segments(c, size), fifo.Segments(c, size)
		for i, piece := range got {
			spoil(piece, -1)
			for _, other := range got[i+1:] {
				if slices.Contains(other, -1) {
					t.Fatalf("size %d: pieces share memory", size)
				}
			}
		}
		if !slices.Equal(list, []int{1, 2, 3, 4, 5, 6}) || !slices.Equal(slices.Concat(again...), list[:5]) {
			t.Errorf("size %d: memory is shared", size)
		}
	}
}
