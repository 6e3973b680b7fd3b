package code_test

import (
	"fmt"
	"math"
	"slices"
	"testing"

	"stopgate/api"
	"stopgate/code"
)

// shape is a hall's shape, cells is one of another kind; with start the first channels are there.
func shape(threads, chans, capacity int, start ...int) api.Config {
	return api.Config{Kind: api.KHall, Threads: threads, Chans: chans, Cap: capacity, Nodes: 1, Retire: 1, Tags: 1, Seqs: 1, Gens: 1, Start: start}
}

func cells(kind, threads, capacity int) api.Config {
	return api.Config{Kind: kind, Threads: threads, Cap: capacity, Nodes: 1, Retire: 1, Tags: 1, Seqs: 1}
}

func open(gen, capacity int, values ...int) api.Chan {
	return api.Chan{Gen: gen, Cap: capacity, Used: true, Buf: values}
}

func wait(ticket, seq int, cases ...api.Case) api.Wait {
	return api.Wait{On: true, Ticket: ticket, Seq: seq, Cases: cases}
}

// text tells all fields of things, nil lists as empty ones: what has the same text is the same.
func text(l ...any) string { return fmt.Sprintf("%+v", l) }

// odd is numbers that hardly anything may be.
var odd = []int{math.MinInt, math.MinInt + 1, -1 << 32, -2, -1, 1 << 32, 1<<32 + 1, 1 << 53, math.MaxInt - 1, math.MaxInt}

// span is a number of a shape, and what it may be at least and at most.
type span struct {
	name        string
	set         func(c *api.Config, n int)
	least, most int
}

// spans is the numbers that shapes of all kinds have.
func spans() []span {
	return []span{
		{"threads", func(c *api.Config, n int) { c.Threads = n }, 1, 64},
		{"nodes", func(c *api.Config, n int) { c.Nodes = n }, 1, 64},
		{"retire", func(c *api.Config, n int) { c.Retire = n }, 1, 32},
		{"patience", func(c *api.Config, n int) { c.Patience = n }, 0, 4},
		{"tags", func(c *api.Config, n int) { c.Tags = n }, 1, 1<<32 - 1},
		{"seqs", func(c *api.Config, n int) { c.Seqs = n }, 1, 1<<20 - 1},
	}
}

func judge(t *testing.T, what string, c api.Config, want bool) {
	t.Helper()
	e := code.Check(c)
	if e != api.OK && e != api.EARG || (e == api.OK) != want {
		t.Errorf("%s: %v", what, e)
	}
	if state, size := code.State(c), code.Size(c); (state > 0) != want || (size > 0) != want || !want && (state != 0 || size != 0) {
		t.Errorf("%s: State %d, Size %d", what, state, size)
	}
}

func TestCheck_P13_1(t *testing.T) {
	for kind, own := range map[int][]span{
		api.KFifo: {
			{"cap", func(c *api.Config, n int) { c.Cap = n }, 1, 16},
			{"chans", func(c *api.Config, n int) { c.Chans = n }, 0, 0},
			{"gens", func(c *api.Config, n int) { c.Gens = n }, 0, 0},
		},
		api.KHall: {
			{"cap", func(c *api.Config, n int) { c.Cap = n }, 0, 8},
			{"chans", func(c *api.Config, n int) { c.Chans = n }, 1, 8},
			{"gens", func(c *api.Config, n int) { c.Gens = n }, 1, 4095},
		},
	} {
		for _, s := range append(spans(), own...) {
			for _, n := range append([]int{s.least - 1, s.least, s.least + 1, s.most - 1, s.most, s.most + 1, 0}, odd...) {
				want := s.least <= n && n <= s.most
				if kind == api.KHall {
					c := shape(1, 1, 0)
					s.set(&c, n)
					judge(t, fmt.Sprintf("hall %s %d", s.name, n), c, want)
					continue
				}
				for _, k := range []int{api.KFifo, api.KLifo} {
					c := cells(k, 1, 1)
					s.set(&c, n)
					judge(t, fmt.Sprintf("kind %d %s %d", k, s.name, n), c, want)
				}
			}
		}
	}
}

func TestCheckKinds_P13_1(t *testing.T) {
	for _, kind := range append([]int{0, 1, 2, 3, 4, 5, 257, 259}, odd...) {
		judge(t, fmt.Sprintf("cells as kind %d", kind), cells(kind, 1, 1), kind == 1 || kind == 2)
		judge(t, fmt.Sprintf("a hall as kind %d", kind), shapeOf(kind), kind == 3)
	}
	judge(t, "nothing", api.Config{}, false)
}

// shapeOf is a hall's shape with another kind.
func shapeOf(kind int) api.Config {
	c := shape(1, 1, 1)
	c.Kind = kind
	return c
}

func TestCheckStarts_P13_1(t *testing.T) {
	for _, c := range []struct {
		chans, capacity int
		start           []int
		want            bool
	}{
		{2, 3, nil, true},
		{2, 3, []int{}, true},
		{2, 3, []int{0}, true},
		{2, 3, []int{3, 0}, true},
		{2, 3, []int{3, 3}, true},
		{2, 3, []int{3, 3, 3}, false},
		{2, 3, make([]int, 1000), false},
		{2, 3, []int{4}, false},
		{2, 3, []int{0, 4}, false},
		{2, 3, []int{-1, 0}, false},
		{2, 3, []int{0, math.MinInt}, false},
		{2, 3, []int{math.MaxInt, 0}, false},
		{1, 0, []int{0}, true},
		{1, 0, []int{1}, false},
		{8, 8, slices.Repeat([]int{8}, 8), true},
		{8, 8, slices.Repeat([]int{8}, 9), false},
		{8, 8, []int{8, 8, 8, 8, 8, 8, 8, 9}, false},
	} {
		judge(t, fmt.Sprint(c), shape(1, c.chans, c.capacity, c.start...), c.want)
	}
	for _, kind := range []int{api.KFifo, api.KLifo} {
		c := cells(kind, 1, 1)
		c.Start = []int{}
		judge(t, "no start", c, true)
		c.Start = []int{0}
		judge(t, "a start", c, false)
	}
}

func TestSize_P13_1(t *testing.T) {
	for _, c := range []struct {
		c           api.Config
		state, size int
	}{
		{shape(1, 1, 1), 7, 8},
		{shape(1, 1, 0), 6, 7},
		{shape(2, 3, 4, 1, 2), 24, 26},
		{shape(64, 8, 8), 329, 393},
		{cells(api.KFifo, 1, 1), 2, 3},
		{cells(api.KLifo, 1, 2), 3, 4},
		{cells(api.KFifo, 64, 16), 17, 81},
		{cells(api.KLifo, 3, 5), 6, 9},
		{cells(api.KFifo, 1, 17), 0, 0},
		{cells(api.KLifo, 65, 1), 0, 0},
		{cells(api.KHall, 1, 1), 0, 0},
		{shape(1, 9, 1), 0, 0},
		{shape(1, 1, 1, 2), 0, 0},
		{api.Config{}, 0, 0},
	} {
		if state, size := code.State(c.c), code.Size(c.c); state != c.state || size != c.size {
			t.Errorf("%+v: State %d, Size %d", c.c, state, size)
		}
	}
}

// full is a hall's shape, and one of its halls in which each field has something.
func full() (api.Config, api.Hall) {
	return shape(3, 4, 2), api.Hall{
		Ticket: 7,
		Chans:  []api.Chan{open(1, 2, 5, 6), {Gen: 3}, {Gen: 2, Cap: 1, Used: true, Closed: true, Buf: []int{9}}, open(4, 0)},
		Waits:  []api.Wait{{}, wait(6, 2, api.Case{Dir: api.Send, Handle: 8, Value: 4}, api.Case{Dir: api.Recv, Handle: 18}), wait(5, 1, api.Case{Dir: api.Recv})},
		Done:   []api.Result{{Seq: 1, Case: 1, Value: 4}, {Seq: 2, Code: api.EPARK}, {Seq: 3, Code: api.EARG}},
	}
}

// a hall's change, and whether it may be a hall of its shape then.
type change struct {
	what string
	do   func(h *api.Hall)
	want bool
}

// wide tells what becomes of a number of a hall that may be 0 to most.
func wide(what string, most int, set func(h *api.Hall, n int)) []change {
	var l []change
	for _, n := range append([]int{0, 1, most - 1, most, most + 1}, odd...) {
		l = append(l, change{fmt.Sprintf("%s %d", what, n), func(h *api.Hall) { set(h, n) }, 0 <= n && n <= most})
	}
	return l
}

// changes is what may, and what may not be.
func changes() []change {
	l := []change{
		{"as it is", func(h *api.Hall) {}, true},
		{"nothing", func(h *api.Hall) { *h = api.Hall{} }, false},
		{"no channels", func(h *api.Hall) { h.Chans = nil }, false},
		{"a channel less", func(h *api.Hall) { h.Chans = h.Chans[:3] }, false},
		{"a channel more", func(h *api.Hall) { h.Chans = append(h.Chans, api.Chan{}) }, false},
		{"channels that are not", func(h *api.Hall) { h.Chans = make([]api.Chan, 4) }, true},
		{"no waits", func(h *api.Hall) { h.Waits = nil }, false},
		{"a wait less", func(h *api.Hall) { h.Waits = h.Waits[:2] }, false},
		{"a wait more", func(h *api.Hall) { h.Waits = append(h.Waits, api.Wait{}) }, false},
		{"no results", func(h *api.Hall) { h.Done = nil }, false},
		{"a result less", func(h *api.Hall) { h.Done = h.Done[:2] }, false},
		{"a result more", func(h *api.Hall) { h.Done = append(h.Done, api.Result{}) }, false},
		{"as many values as Cap", func(h *api.Hall) { h.Chans[2].Buf = []int{1} }, true},
		{"more values than Cap, but not than the shape's", func(h *api.Hall) { h.Chans[2].Buf = []int{1, 2} }, false},
		{"more values than the shape's Cap", func(h *api.Hall) { h.Chans[0].Buf = []int{1, 2, 3} }, false},
		{"a value where there is no room", func(h *api.Hall) { h.Chans[3].Buf = []int{1} }, false},
		{"no values", func(h *api.Hall) { h.Chans[0].Buf = []int{} }, true},
		{"Cap below how many there are", func(h *api.Hall) { h.Chans[0].Cap = 1 }, false},
		{"not used, closed", func(h *api.Hall) { h.Chans[1].Closed = true }, false},
		{"not used, with Cap", func(h *api.Hall) { h.Chans[1].Cap = 1 }, false},
		{"not used, with a value", func(h *api.Hall) { h.Chans[1].Buf = []int{1} }, false},
		{"not used, with Cap and a value", func(h *api.Hall) { h.Chans[1].Cap, h.Chans[1].Buf = 1, []int{1} }, false},
		{"not used any more", func(h *api.Hall) { h.Chans[3].Used = false }, true},
		{"used, Gen 0", func(h *api.Hall) { h.Chans[3].Gen = 0 }, true},
		{"closed, with Cap 0", func(h *api.Hall) { h.Chans[3].Closed = true }, true},
		{"does not wait, with a ticket", func(h *api.Hall) { h.Waits[0].Ticket = 1 }, false},
		{"does not wait, with a number", func(h *api.Hall) { h.Waits[0].Seq = 1 }, false},
		{"does not wait, with a case", func(h *api.Hall) { h.Waits[0].Cases = []api.Case{{Dir: 1}} }, false},
		{"does not wait, with no cases", func(h *api.Hall) { h.Waits[0].Cases = []api.Case{} }, true},
		{"does not wait any more", func(h *api.Hall) { h.Waits[1].On = false }, false},
		{"waits for nothing", func(h *api.Hall) { h.Waits[2].Cases = nil }, false},
		{"waits, with zeros", func(h *api.Hall) { h.Waits[0].On = true }, false},
		{"waits, with a plain case", func(h *api.Hall) { h.Waits[0] = wait(0, 0, api.Case{Dir: 1}) }, true},
		{"three cases", func(h *api.Hall) { h.Waits[2].Cases = slices.Repeat([]api.Case{{Dir: 2}}, 3) }, true},
		{"four cases", func(h *api.Hall) { h.Waits[2].Cases = slices.Repeat([]api.Case{{Dir: 2}}, 4) }, false},
		{"eleven cases", func(h *api.Hall) { h.Waits[2].Cases = slices.Repeat([]api.Case{{Dir: 2}}, 11) }, false},
		{"a ticket twice", func(h *api.Hall) { h.Waits[2].Ticket = 6 }, true},
		{"a ticket that was not given out", func(h *api.Hall) { h.Waits[2].Ticket = 8 }, true},
		{"a case's direction 0", func(h *api.Hall) { h.Waits[1].Cases[1].Dir = 0 }, false},
		{"a case's direction 3", func(h *api.Hall) { h.Waits[1].Cases[1].Dir = 3 }, false},
		{"a case's direction -1", func(h *api.Hall) { h.Waits[1].Cases[0].Dir = -1 }, false},
		{"the last result", func(h *api.Hall) { h.Done[2].Case = 16 }, false},
	}
	l = append(l, wide("ticket", 1<<32-1, func(h *api.Hall, n int) { h.Ticket = n })...)
	l = append(l, wide("gen", 4095, func(h *api.Hall, n int) { h.Chans[0].Gen = n })...)
	l = append(l, wide("gen of none", 4095, func(h *api.Hall, n int) { h.Chans[1].Gen = n })...)
	l = append(l, wide("cap", 2, func(h *api.Hall, n int) { h.Chans[3].Cap = n })...)
	l = append(l, wide("value", 1<<32-1, func(h *api.Hall, n int) { h.Chans[0].Buf[1] = n })...)
	l = append(l, wide("wait's ticket", 1<<32-1, func(h *api.Hall, n int) { h.Waits[1].Ticket = n })...)
	l = append(l, wide("wait's seq", 1<<20-1, func(h *api.Hall, n int) { h.Waits[1].Seq = n })...)
	l = append(l, wide("case's handle", 65535, func(h *api.Hall, n int) { h.Waits[1].Cases[1].Handle = n })...)
	l = append(l, wide("case's value", 1<<32-1, func(h *api.Hall, n int) { h.Waits[1].Cases[1].Value = n })...)
	l = append(l, wide("result's seq", 1<<20-1, func(h *api.Hall, n int) { h.Done[1].Seq = n })...)
	l = append(l, wide("result's case", 15, func(h *api.Hall, n int) { h.Done[1].Case = n })...)
	l = append(l, wide("result's code", 255, func(h *api.Hall, n int) { h.Done[1].Code = api.Errno(n) })...)
	return append(l, wide("result's value", 1<<32-1, func(h *api.Hall, n int) { h.Done[1].Value = n })...)
}

func TestFits_P13_2_P13_3_P13_4(t *testing.T) {
	for _, x := range changes() {
		c, h := full()
		x.do(&h)
		before := text(h)
		if got := code.Fits(c, h); got != x.want {
			t.Errorf("%s: Fits is %v", x.what, got)
		}
		l := code.Put(c, h)
		if text(h) != before {
			t.Errorf("%s: changed", x.what)
		}
		if !x.want {
			if len(l) != 0 {
				t.Errorf("%s: words %x", x.what, l)
			}
			continue
		}
		if len(l) != code.Size(c) {
			t.Errorf("%s: %d words", x.what, len(l))
		}
		if got, ok := code.Read(c, l); !ok || text(got) != before {
			t.Errorf("%s: read as %+v, %v", x.what, got, ok)
		}
	}
}

// A hall is one of its own shape alone.
func TestFitsShapes_P13_2(t *testing.T) {
	c, h := full()
	words := code.Put(c, h)
	for what, do := range map[string]func(c *api.Config){
		"a thread more":   func(c *api.Config) { c.Threads++ },
		"a thread less":   func(c *api.Config) { c.Threads-- },
		"a channel more":  func(c *api.Config) { c.Chans++ },
		"a channel less":  func(c *api.Config) { c.Chans-- },
		"less room":       func(c *api.Config) { c.Cap-- },
		"a queue":         func(c *api.Config) { *c = cells(api.KFifo, 3, 2) },
		"a stack":         func(c *api.Config) { c.Kind = api.KLifo },
		"no kind":         func(c *api.Config) { c.Kind = 0 },
		"no nodes":        func(c *api.Config) { c.Nodes = 0 },
		"a start too big": func(c *api.Config) { c.Start = []int{3} },
		"nothing":         func(c *api.Config) { *c = api.Config{} },
	} {
		d := c
		do(&d)
		if code.Fits(d, h) || len(code.Put(d, h)) != 0 {
			t.Errorf("%s: fits", what)
		}
		if g, ok := code.Read(d, words); ok || text(g) != text(api.Hall{}) {
			t.Errorf("%s: read %+v, %v", what, g, ok)
		}
	}
	// What the shape alone has does not matter: generations beyond Gens, other channels than those of Start.
	for what, do := range map[string]func(c *api.Config){
		"more room":    func(c *api.Config) { c.Cap++ },
		"most gens":    func(c *api.Config) { c.Gens = 4095 },
		"starts":       func(c *api.Config) { c.Start = []int{0, 0, 0, 0} },
		"other limits": func(c *api.Config) { c.Nodes, c.Retire, c.Patience, c.Tags, c.Seqs = 64, 32, 4, 9, 9 },
	} {
		d := c
		do(&d)
		g, ok := code.Read(d, code.Put(d, h))
		if !code.Fits(d, h) || !ok || text(g) != text(h) {
			t.Errorf("%s: %+v, %v", what, g, ok)
		}
	}
}

func TestFitsCells_P13_2_P13_3_P13_4(t *testing.T) {
	one := func() api.Cells {
		return api.Cells{Cap: 3, List: []int{7, 8}, Done: []api.Result{{Seq: 1, Case: 2, Code: 3, Value: 4}, {Seq: 5}}}
	}
	type change struct {
		what string
		do   func(x *api.Cells)
		want bool
	}
	l := []change{
		{"as they are", func(x *api.Cells) {}, true},
		{"nothing", func(x *api.Cells) { *x = api.Cells{} }, false},
		{"no values", func(x *api.Cells) { x.List = nil }, true},
		{"empty values", func(x *api.Cells) { x.List = []int{} }, true},
		{"full", func(x *api.Cells) { x.List = []int{1, 2, 3} }, true},
		{"more than full", func(x *api.Cells) { x.List = []int{1, 2, 3, 4} }, false},
		{"less room", func(x *api.Cells) { x.Cap = 2 }, false},
		{"more room", func(x *api.Cells) { x.Cap = 4 }, false},
		{"no room", func(x *api.Cells) { x.Cap = 0 }, false},
		{"less than no room", func(x *api.Cells) { x.Cap = -1 }, false},
		{"a result less", func(x *api.Cells) { x.Done = x.Done[:1] }, false},
		{"a result more", func(x *api.Cells) { x.Done = append(x.Done, api.Result{}) }, false},
		{"no results", func(x *api.Cells) { x.Done = nil }, false},
	}
	for name, s := range map[string]struct {
		most int
		set  func(x *api.Cells, n int)
	}{
		"value":          {1<<32 - 1, func(x *api.Cells, n int) { x.List[1] = n }},
		"first value":    {1<<32 - 1, func(x *api.Cells, n int) { x.List[0] = n }},
		"result's seq":   {1<<20 - 1, func(x *api.Cells, n int) { x.Done[1].Seq = n }},
		"result's case":  {15, func(x *api.Cells, n int) { x.Done[0].Case = n }},
		"result's code":  {255, func(x *api.Cells, n int) { x.Done[1].Code = api.Errno(n) }},
		"result's value": {1<<32 - 1, func(x *api.Cells, n int) { x.Done[1].Value = n }},
	} {
		for _, n := range append([]int{0, 1, s.most - 1, s.most, s.most + 1}, odd...) {
			l = append(l, change{fmt.Sprintf("%s %d", name, n), func(x *api.Cells) { s.set(x, n) }, 0 <= n && n <= s.most})
		}
	}
	for _, kind := range []int{api.KFifo, api.KLifo} {
		c := cells(kind, 2, 3)
		for _, y := range l {
			x := one()
			y.do(&x)
			before := text(x)
			if got := code.FitsCells(c, x); got != y.want {
				t.Errorf("%s: FitsCells is %v", y.what, got)
			}
			words := code.PutCells(c, x)
			if text(x) != before || !y.want && len(words) != 0 || y.want && len(words) != 6 {
				t.Errorf("%s: words %x of %v", y.what, words, x)
			}
			if !y.want {
				continue
			}
			if got, ok := code.ReadCells(c, words); !ok || text(got) != before {
				t.Errorf("%s: read as %+v, %v", y.what, got, ok)
			}
		}
	}
}

// Cells are those of their own shape alone, and of no hall's.
func TestFitsCellsShapes_P13_2(t *testing.T) {
	x := api.Cells{Cap: 1, List: []int{7}, Done: make([]api.Result, 2)}
	words := code.PutCells(cells(api.KFifo, 2, 1), x)
	bad := cells(api.KFifo, 2, 1)
	bad.Retire = 33
	for _, c := range []api.Config{
		cells(api.KFifo, 1, 1), cells(api.KFifo, 3, 1), cells(api.KLifo, 2, 2), cells(0, 2, 1), cells(3, 2, 1), cells(4, 2, 1),
		shape(2, 1, 1), shape(2, 1, 1, 1), bad, {},
	} {
		if code.FitsCells(c, x) || len(code.PutCells(c, x)) != 0 {
			t.Errorf("%+v: fits", c)
		}
		if y, ok := code.ReadCells(c, words); ok || text(y) != text(api.Cells{}) {
			t.Errorf("%+v: read %+v, %v", c, y, ok)
		}
	}
	most := api.Cells{Cap: 16, List: slices.Repeat([]int{api.MaxValue}, 16), Done: make([]api.Result, 64)}
	if c := cells(api.KLifo, 64, 16); !code.FitsCells(c, most) || len(code.PutCells(c, most)) != 81 {
		t.Error("the most cells")
	}
}

func TestExample_P13_3(t *testing.T) {
	h := api.Hall{Chans: []api.Chan{open(1, 1, 7)}, Waits: make([]api.Wait, 1), Done: make([]api.Result, 1)}
	want := []uint64{0, 1 | 1<<12 | 1<<16 | 1<<20, 7, 0, 0, 0, 0, 0}
	if got := code.Put(shape(1, 1, 1), h); !slices.Equal(got, want) {
		t.Errorf("%x", got)
	}
}

func TestPut_P13_3(t *testing.T) {
	c, h := full()
	want := []uint64{
		7,
		1 | 2<<12 | 1<<16 | 2<<20, 5, 6,
		3, 0, 0,
		2 | 1<<12 | 1<<16 | 1<<17 | 1<<20, 9, 0,
		4 | 1<<16, 0, 0,
		0, 0, 0, 0,
		1 | 2<<1 | 2<<4 | 6<<32, 1 | 8<<8 | 4<<32, 2 | 18<<8, 0,
		1 | 1<<1 | 1<<4 | 5<<32, 2, 0, 0,
		1<<44 | 1<<40 | 4, 2<<44 | 14<<32, 3<<44 | 1<<32,
	}
	if got := code.Put(c, h); !slices.Equal(got, want) {
		t.Errorf("%x, not %x", got, want)
	}
	if got, ok := code.Read(c, want); !ok || text(got) != text(h) {
		t.Errorf("%+v, %v", got, ok)
	}
}

// All numbers at their ends, in a shape at its ends.
func TestPutMost_P13_3_P13_4(t *testing.T) {
	const value = 1<<32 - 1
	c := shape(64, 8, 8)
	most := api.Case{Dir: api.Recv, Handle: 65535, Value: value}
	h := api.Hall{
		Ticket: value,
		Chans:  slices.Repeat([]api.Chan{{Gen: 4095, Cap: 8, Used: true, Closed: true, Buf: slices.Repeat([]int{value}, 8)}}, 8),
		Waits:  slices.Repeat([]api.Wait{wait(value, 1<<20-1, most, most, most)}, 64),
		Done:   slices.Repeat([]api.Result{{Seq: 1<<20 - 1, Case: 15, Code: 255, Value: value}}, 64),
	}
	oneChan := append([]uint64{4095 | 8<<12 | 1<<16 | 1<<17 | 8<<20}, slices.Repeat([]uint64{value}, 8)...)
	oneCase := uint64(2 | 65535<<8 | value<<32)
	oneWait := []uint64{1 | 3<<1 | (1<<20-1)<<4 | value<<32, oneCase, oneCase, oneCase}
	want := slices.Concat([]uint64{value}, slices.Repeat(oneChan, 8), slices.Repeat(oneWait, 64), slices.Repeat([]uint64{math.MaxUint64}, 64))
	got := code.Put(c, h)
	if len(got) != 393 || !slices.Equal(got, want) {
		t.Errorf("%x, not %x", got, want)
	}
	if g, ok := code.Read(c, got); !ok || text(g) != text(h) {
		t.Errorf("%+v, %v", g, ok)
	}
}

func TestPutCells_P13_3_P13_4(t *testing.T) {
	for _, y := range []struct {
		x    api.Cells
		want []uint64
	}{
		{api.Cells{Cap: 2, Done: make([]api.Result, 1)}, []uint64{0, 0, 0, 0}},
		{api.Cells{Cap: 2, List: []int{7}, Done: []api.Result{{Seq: 1}}}, []uint64{1, 7, 0, 1 << 44}},
		{api.Cells{Cap: 2, List: []int{0}, Done: make([]api.Result, 1)}, []uint64{1, 0, 0, 0}},
		{api.Cells{Cap: 2, List: []int{api.MaxValue, 3}, Done: []api.Result{{Seq: 2, Case: 3, Code: 10, Value: 5}, {Value: 6}}},
			[]uint64{2, 1<<32 - 1, 3, 2<<44 | 3<<40 | 10<<32 | 5, 6}},
	} {
		for _, kind := range []int{api.KFifo, api.KLifo} {
			c := cells(kind, len(y.x.Done), 2)
			if got := code.PutCells(c, y.x); !slices.Equal(got, y.want) {
				t.Errorf("%+v: %x, not %x", y.x, got, y.want)
			}
			if got, ok := code.ReadCells(c, y.want); !ok || text(got) != text(y.x) {
				t.Errorf("%x: %+v, %v", y.want, got, ok)
			}
		}
	}
}
