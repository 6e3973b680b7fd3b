package code_test

import (
	"math"
	"slices"
	"testing"

	"stopgate/api"
	"stopgate/code"
)

// none tells that words are no hall's, and no cells'.
func none(t *testing.T, c api.Config, l []uint64) {
	t.Helper()
	if h, ok := code.Read(c, l); ok || text(h) != text(api.Hall{}) {
		t.Errorf("Read(%x) = %+v, %v", l, h, ok)
	}
	if x, ok := code.ReadCells(c, l); ok || text(x) != text(api.Cells{}) {
		t.Errorf("ReadCells(%x) = %+v, %v", l, x, ok)
	}
}

func TestReadOfNone_P13_4(t *testing.T) {
	c := shape(1, 1, 1)
	for _, l := range [][]uint64{
		nil,
		{},
		{0},
		{0, 1 | 1<<12 | 1<<16, 0, 0, 0, 0, 0},
		{0, 1 | 1<<12 | 1<<16, 0, 0, 0, 0, 0, 0, 0},
		{1 << 32, 0, 0, 0, 0, 0, 0, 0},
		{math.MaxUint64, 0, 0, 0, 0, 0, 0, 0},
		{0, 1 | 2<<12 | 1<<16, 0, 0, 0, 0, 0, 0},
		{0, 1 | 15<<12 | 1<<16, 0, 0, 0, 0, 0, 0},
		{0, 1 | 1<<12, 0, 0, 0, 0, 0, 0},
		{0, 1 | 1<<17, 0, 0, 0, 0, 0, 0},
		{0, 1 | 1<<16 | 1<<18, 0, 0, 0, 0, 0, 0},
		{0, 1 | 1<<16 | 1<<19, 0, 0, 0, 0, 0, 0},
		{0, 1 | 1<<16 | 1<<20, 7, 0, 0, 0, 0, 0},
		{0, 1 | 1<<12 | 1<<16 | 2<<20, 7, 0, 0, 0, 0, 0},
		{0, 1 | 1<<12 | 1<<16 | 1<<63, 7, 0, 0, 0, 0, 0},
		{0, 1 | 1<<12 | 1<<16, 7, 0, 0, 0, 0, 0},
		{0, 1 | 1<<12 | 1<<16 | 1<<20, 1 << 32, 0, 0, 0, 0, 0},
		{0, 1 | 1<<12 | 1<<16 | 1<<20, math.MaxUint64, 0, 0, 0, 0, 0},
		{0, 0, 0, 1, 0, 0, 0, 0},
		{0, 0, 0, 1 << 1, 1, 0, 0, 0},
		{0, 0, 0, 1 << 4, 0, 0, 0, 0},
		{0, 0, 0, 1 << 32, 0, 0, 0, 0},
		{0, 0, 0, 0, 1, 0, 0, 0},
		{0, 0, 0, 0, 0, 0, 1, 0},
		{0, 0, 0, 1 | 1<<1, 0, 0, 0, 0},
		{0, 0, 0, 1 | 1<<1, 3, 0, 0, 0},
		{0, 0, 0, 1 | 1<<1, 1 | 1<<2, 0, 0, 0},
		{0, 0, 0, 1 | 1<<1, 1 | 1<<24, 0, 0, 0},
		{0, 0, 0, 1 | 1<<1, 1, 1, 0, 0},
		{0, 0, 0, 1 | 2<<1, 1, 0, 0, 0},
		{0, 0, 0, 1 | 4<<1, 1, 1, 1, 0},
		{0, 0, 0, 1 | 7<<1, 1, 1, 1, 0},
		{0, 0, 0, 1 | 1<<1 | 1<<24, 1, 0, 0, 0},
		{0, 0, 0, 1 | 1<<1 | 1<<31, 1, 0, 0, 0},
		slices.Repeat([]uint64{math.MaxUint64}, 8),
	} {
		none(t, c, l)
	}
	f := cells(api.KFifo, 1, 2)
	for _, l := range [][]uint64{
		nil,
		{},
		{0, 0, 0},
		{0, 0, 0, 0, 0},
		{3, 1, 2, 0},
		{1 << 63, 1, 2, 0},
		{math.MaxUint64, 1, 2, 0},
		{1 << 32, 0, 0, 0},
		{0, 1, 0, 0},
		{1, 1, 1, 0},
		{1, 1 << 32, 0, 0},
		{2, 1, math.MaxUint64, 0},
	} {
		none(t, f, l)
		f.Kind = api.KLifo
		none(t, f, l)
	}
	for _, l := range [][]uint64{nil, {}, {0}} {
		none(t, api.Config{}, l)
		none(t, cells(api.KFifo, -1, 1), l)
		none(t, shape(math.MinInt, math.MaxInt, math.MaxInt), l)
	}
}

// flip holds an object's words, with each one of their bits another one, against which bits of each word may be so.
func flip(t *testing.T, l, may []uint64, read func(l []uint64) (as string, again []uint64, ok bool)) {
	t.Helper()
	was, _, _ := read(l)
	for i := range l {
		for b := range 64 {
			y := slices.Clone(l)
			y[i] ^= 1 << b
			as, again, ok := read(y)
			if want := may[i]>>b&1 == 1; ok != want || ok && (as == was || !slices.Equal(again, y)) {
				t.Errorf("word %d, bit %d: %v, %s", i, b, ok, as)
			}
		}
	}
}

func TestReadJustSo_P13_4(t *testing.T) {
	const (
		all   = math.MaxUint64
		value = 1<<32 - 1
		gen   = 1<<12 - 1
		one   = 65535<<8 | value<<32
		first = (1<<20-1)<<4 | value<<32
	)
	c, h := full()
	flip(t, code.Put(c, h), []uint64{
		value,
		gen | 1<<17, value, value, // it may be closed
		gen | 1<<16, 0, 0, // there may be one
		gen | 1<<17, value, 0, // it may be open
		gen | 1<<12 | 1<<13 | 1<<16 | 1<<17, 0, 0, // it may have room, be none, be closed
		0, 0, 0, 0,
		first, one, one, 0,
		first, one, 0, 0,
		all, all, all,
	}, func(l []uint64) (string, []uint64, bool) {
		g, ok := code.Read(c, l)
		if !ok && text(g) != text(api.Hall{}) {
			t.Errorf("%x: none, but %+v", l, g)
		}
		return text(g), code.Put(c, g), ok
	})
	f := cells(api.KLifo, 2, 3)
	x := api.Cells{Cap: 3, List: []int{7, 8}, Done: []api.Result{{Seq: 1, Case: 2, Code: 3, Value: 4}, {Seq: 5}}}
	// Two values may be three, of which the last is 0.
	flip(t, code.PutCells(f, x), []uint64{1, value, value, 0, all, all}, func(l []uint64) (string, []uint64, bool) {
		y, ok := code.ReadCells(f, l)
		if !ok && text(y) != text(api.Cells{}) {
			t.Errorf("%x: none, but %+v", l, y)
		}
		return text(y), code.PutCells(f, y), ok
	})
}

// Mixed words are none's, or those of what is read.
func TestReadMixed_P13_4(t *testing.T) {
	mixed := uint64(9)
	next := func() uint64 {
		mixed = mixed*6364136223846793005 + 1442695040888963407
		return mixed ^ mixed>>29
	}
	shapes := []api.Config{shape(1, 1, 0), shape(1, 1, 1), shape(2, 2, 2), cells(api.KFifo, 1, 1), cells(api.KLifo, 2, 2)}
	read := 0
	for range 60000 {
		c := shapes[next()%uint64(len(shapes))]
		l := make([]uint64, code.Size(c))
		for i := range l {
			// Mostly small words, so that some are an object's.
			l[i] = next() >> (next() % 64) & next() >> (next() % 64) & (1<<(next()%64) - 1)
			if next()%2 == 0 {
				l[i] = 0
			}
		}
		h, ok := code.Read(c, l)
		x, cok := code.ReadCells(c, l)
		if ok && (c.Kind != api.KHall || !code.Fits(c, h) || !slices.Equal(code.Put(c, h), l)) || !ok && text(h) != text(api.Hall{}) {
			t.Fatalf("%x: %+v", l, h)
		}
		if cok && (c.Kind == api.KHall || !code.FitsCells(c, x) || !slices.Equal(code.PutCells(c, x), l)) || !cok && text(x) != text(api.Cells{}) {
			t.Fatalf("%x: %+v", l, x)
		}
		if ok || cok {
			read++
		}
	}
	if read < 1000 {
		t.Errorf("only %d were read", read)
	}
}

// spoil writes into all of a list, the room behind its end included.
func spoil[T any](l []T, with T) {
	l = l[:cap(l)]
	for i := range l {
		l[i] = with
	}
}

func TestNewMemory_P13_3(t *testing.T) {
	c, h := full()
	before := text(h)
	l, again := code.Put(c, h), code.Put(c, h)
	want := slices.Clone(l)
	spoil(l, math.MaxUint64)
	if text(h) != before || !slices.Equal(again, want) {
		t.Error("Put shares memory")
	}
	x := api.Cells{Cap: 1, List: []int{7, 70}[:1], Done: []api.Result{{Seq: 1}, {Seq: 2}}[:1]}
	f := cells(api.KFifo, 1, 1)
	m, twice := code.PutCells(f, x), code.PutCells(f, x)
	spoil(m, math.MaxUint64)
	if x.List[0] != 7 || x.List[:2][1] != 70 || x.Done[:2][1].Seq != 2 || !slices.Equal(twice, []uint64{1, 7, 1 << 44}) {
		t.Error("PutCells shares memory", x, twice)
	}
}

func TestNewMemory_P13_4(t *testing.T) {
	c, want := full()
	l := code.Put(c, want)
	words := slices.Clone(l)
	h, _ := code.Read(c, l)
	g, _ := code.Read(c, l)
	// Each list is spoilt by itself: no other one may have changed by that.
	for i := range h.Chans {
		spoil(h.Chans[i].Buf, -1)
		h.Chans[i].Buf = slices.Clone(want.Chans[i].Buf)
		if text(h) != text(want) {
			t.Fatal("values share memory", i, h)
		}
	}
	for i := range h.Waits {
		spoil(h.Waits[i].Cases, api.Case{Dir: -1})
		h.Waits[i].Cases = slices.Clone(want.Waits[i].Cases)
		if text(h) != text(want) {
			t.Fatal("cases share memory", i, h)
		}
	}
	spoil(h.Chans, api.Chan{Gen: -1})
	spoil(h.Waits, api.Wait{Seq: -1})
	spoil(h.Done, api.Result{Seq: -1})
	if text(g) != text(want) || !slices.Equal(l, words) {
		t.Error("Read shares memory")
	}
	f := cells(api.KLifo, 2, 2)
	m := []uint64{2, 7, 8, 1 << 44, 2 << 44, 99}[:5]
	x, _ := code.ReadCells(f, m)
	y, _ := code.ReadCells(f, m)
	spoil(x.List, -1)
	if x.Done[0] != (api.Result{Seq: 1}) || x.Done[1] != (api.Result{Seq: 2}) {
		t.Error("values and results share memory", x)
	}
	spoil(x.Done, api.Result{Seq: -1})
	if !slices.Equal(m[:6], []uint64{2, 7, 8, 1 << 44, 2 << 44, 99}) || !slices.Equal(y.List, []int{7, 8}) || y.Done[1].Seq != 2 {
		t.Error("ReadCells shares memory", m, y)
	}
}

// Whatever a shape and an object are, all calls end, and tell nothing of a shape that may not be.
func TestAnyShape_P13_1_P13_2(t *testing.T) {
	_, h := full()
	x := api.Cells{Cap: 1, List: []int{1}, Done: make([]api.Result, 1)}
	for _, n := range odd {
		for _, c := range []api.Config{
			{Kind: n, Threads: n, Chans: n, Cap: n, Nodes: n, Retire: n, Patience: n, Tags: n, Seqs: n, Gens: n, Start: []int{n}},
			{Kind: api.KHall, Threads: n, Chans: n, Cap: n, Nodes: 1, Retire: 1, Tags: 1, Seqs: 1, Gens: 1},
			shape(n, 1, 1), shape(1, n, 1), shape(1, 1, n), shape(1, 1, 1, n),
			cells(api.KFifo, n, 1), cells(api.KLifo, 1, n),
		} {
			judge(t, text(c), c, false)
			if code.Fits(c, h) || code.FitsCells(c, x) || len(code.Put(c, h)) != 0 || len(code.PutCells(c, x)) != 0 {
				t.Errorf("%+v has objects", c)
			}
			none(t, c, []uint64{0, 0, 0, 0})
		}
	}
}
