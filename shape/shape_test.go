package shape_test

import (
	"fmt"
	"math"
	"slices"
	"strings"
	"testing"

	"stopgate/api"
	"stopgate/code"
	"stopgate/shape"
)

// text tells all fields of things, nil lists as empty ones: what has the same text is the same.
func text(l ...any) string { return fmt.Sprintf("%+v", l) }

// odd is numbers that hardly anything may be.
var odd = []int{math.MinInt, math.MinInt + 1, -1 << 32, -2, -1, 1 << 32, 1 << 53, math.MaxInt - 1, math.MaxInt}

// plain is the shapes of each kind that have the least to say.
func plain(kind int) api.Config {
	switch kind {
	case api.KFifo, api.KLifo:
		return api.Config{Kind: kind, Threads: 2, Cap: 2, Nodes: 6, Retire: 2, Patience: 1, Tags: 4294967295, Seqs: 1048575}
	case api.KHall:
		return api.Config{Kind: kind, Threads: 2, Chans: 2, Cap: 2, Nodes: 6, Retire: 2, Patience: 1, Tags: 4294967295, Seqs: 1048575, Gens: 4095}
	}
	return api.Config{}
}

func TestPlain_P40_1(t *testing.T) {
	for _, kind := range append([]int{0, 1, 2, 3, 4, 5, 257}, odd...) {
		if got := shape.Plain(kind); text(got) != text(plain(kind)) {
			t.Errorf("%d: %+v", kind, got)
		}
	}
	for _, kind := range []int{api.KFifo, api.KLifo, api.KHall} {
		if e := code.Check(shape.Plain(kind)); e != api.OK {
			t.Errorf("%d: %v", kind, e)
		}
	}
}

// fields is all numbers of a shape.
func fields(c *api.Config) []*int {
	return []*int{&c.Kind, &c.Threads, &c.Chans, &c.Cap, &c.Nodes, &c.Retire, &c.Patience, &c.Tags, &c.Seqs, &c.Gens}
}

func TestSame_P40_1(t *testing.T) {
	full := func() api.Config {
		c := api.Config{Start: []int{4, 5, 6}}
		for i, n := range fields(&c) {
			*n = 100 + i
		}
		return c
	}
	if a := full(); !shape.Same(a, full()) || !shape.Same(a, a) || !shape.Same(api.Config{}, api.Config{}) {
		t.Error("the same shapes are unlike")
	}
	for i := range fields(&api.Config{}) {
		for _, n := range append([]int{0, 101 + i}, odd...) {
			a, b := full(), full()
			*fields(&b)[i] = n
			if shape.Same(a, b) || shape.Same(b, a) {
				t.Errorf("field %d: %+v, %+v", i, a, b)
			}
			*fields(&a)[i] = n
			if !shape.Same(a, b) {
				t.Errorf("field %d: %+v, %+v", i, a, b)
			}
		}
	}
	for _, start := range [][]int{nil, {}, {4}, {4, 5}, {4, 5, 7}, {4, 6, 5}, {6, 5, 4}, {4, 5, 6, 6}, {0, 5, 6}} {
		a, b := full(), full()
		b.Start = start
		if shape.Same(a, b) || shape.Same(b, a) {
			t.Errorf("%+v, %+v", a, b)
		}
	}
	a, b := full(), full()
	a.Start, b.Start = nil, []int{}
	if !shape.Same(a, b) {
		t.Error("no starts are not as none")
	}
}

// full is a hall's shape whose numbers are unlike one another.
func full() api.Config {
	return api.Config{Kind: api.KHall, Threads: 64, Chans: 8, Cap: 7, Nodes: 63, Retire: 32, Patience: 4, Tags: 4294967295, Seqs: 1048575, Gens: 4094, Start: []int{7, 0, 3}}
}

func TestText_P40_2(t *testing.T) {
	for _, x := range []struct {
		c    api.Config
		want string
	}{
		{plain(api.KFifo), "fifo threads=2 cap=2 nodes=6 retire=2 patience=1 tags=4294967295 seqs=1048575"},
		{plain(api.KLifo), "lifo threads=2 cap=2 nodes=6 retire=2 patience=1 tags=4294967295 seqs=1048575"},
		{plain(api.KHall), "hall threads=2 chans=2 cap=2 nodes=6 retire=2 patience=1 tags=4294967295 seqs=1048575 gens=4095"},
		{full(), "hall threads=64 chans=8 cap=7 nodes=63 retire=32 patience=4 tags=4294967295 seqs=1048575 gens=4094 start=7 start=0 start=3"},
		{api.Config{Kind: api.KLifo, Threads: 1, Cap: 16, Nodes: 10, Retire: 3, Tags: 11, Seqs: 12}, "lifo threads=1 cap=16 nodes=10 retire=3 patience=0 tags=11 seqs=12"},
		{api.Config{Kind: api.KHall, Threads: 3, Chans: 1, Nodes: 4, Retire: 5, Patience: 2, Tags: 6, Seqs: 7, Gens: 8, Start: []int{0}}, "hall threads=3 chans=1 cap=0 nodes=4 retire=5 patience=2 tags=6 seqs=7 gens=8 start=0"},
		{api.Config{}, ""},
		{api.Config{Kind: 4, Threads: 1}, ""},
	} {
		before := text(x.c)
		if got := shape.Text(x.c); got != x.want || text(x.c) != before {
			t.Errorf("%+v: %q", x.c, got)
		}
	}
}

// A shape that may not be has no line, whichever its number is.
func TestTextNone_P40_2(t *testing.T) {
	for _, from := range []api.Config{plain(api.KFifo), plain(api.KLifo), full()} {
		for i := range fields(&from) {
			for _, n := range append([]int{0, 1, 2, 5, 9, 17, 33, 65, 4096, 1 << 20}, odd...) {
				c := from
				*fields(&c)[i] = n
				if got, may := shape.Text(c), code.Check(c) == api.OK; (got != "") != may {
					t.Errorf("%+v: %q", c, got)
				}
			}
		}
	}
	for _, start := range [][]int{{8}, {-1}, {0, 0, 0, 0, 0, 0, 0, 0, 0}} {
		c := full()
		c.Start = start
		if got := shape.Text(c); got != "" {
			t.Errorf("%v: %q", start, got)
		}
	}
	// A line is that of a shape, also where a machine of it would have too many words.
	c := full()
	c.Nodes = 64
	if got := shape.Text(c); !strings.HasPrefix(got, "hall threads=64 chans=8 cap=7 nodes=64 ") {
		t.Error(got)
	}
}

// made is a kind's plain shape with other numbers.
func made(kind int, set func(c *api.Config)) api.Config {
	c := plain(kind)
	set(&c)
	return c
}

func TestRead_P40_3(t *testing.T) {
	for s, want := range map[string]api.Config{
		"fifo":                         plain(api.KFifo),
		"lifo":                         plain(api.KLifo),
		"hall":                         plain(api.KHall),
		"hall start=1 cap=3 threads=4": made(api.KHall, func(c *api.Config) { c.Start, c.Cap, c.Threads = []int{1}, 3, 4 }),
		"hall start=2 gens=1 start=0":  made(api.KHall, func(c *api.Config) { c.Start, c.Gens = []int{2, 0}, 1 }),
		"hall start=1 start=1":         made(api.KHall, func(c *api.Config) { c.Start = []int{1, 1} }),
		"hall start=5 cap=5 chans=1":   made(api.KHall, func(c *api.Config) { c.Start, c.Cap, c.Chans = []int{5}, 5, 1 }),
		"hall cap=0":                   made(api.KHall, func(c *api.Config) { c.Cap = 0 }),
		"fifo threads=64":              made(api.KFifo, func(c *api.Config) { c.Threads = 64 }),
		"fifo chans=0 gens=0":          plain(api.KFifo),
		"lifo cap=16":                  made(api.KLifo, func(c *api.Config) { c.Cap = 16 }),
		"lifo nodes=64":                made(api.KLifo, func(c *api.Config) { c.Nodes = 64 }),
		"lifo retire=32":               made(api.KLifo, func(c *api.Config) { c.Retire = 32 }),
		"lifo patience=0":              made(api.KLifo, func(c *api.Config) { c.Patience = 0 }),
		"lifo tags=1":                  made(api.KLifo, func(c *api.Config) { c.Tags = 1 }),
		"lifo tags=4294967295":         plain(api.KLifo),
		"lifo seqs=10":                 made(api.KLifo, func(c *api.Config) { c.Seqs = 10 }),
		"hall nodes=64 threads=64 chans=8 cap=8": made(api.KHall, func(c *api.Config) {
			c.Nodes, c.Threads, c.Chans, c.Cap = 64, 64, 8, 8
		}),
		" fifo  cap=3 ": made(api.KFifo, func(c *api.Config) { c.Cap = 3 }),
	} {
		if got, e := shape.Read(s); e != api.OK || text(got) != text(want) {
			t.Errorf("%q: %+v, %v", s, got, e)
		}
	}
}

// refused asks that lines are refused with a number.
func refused(t *testing.T, want api.Errno, lines ...string) {
	t.Helper()
	for _, s := range lines {
		if c, e := shape.Read(s); e != want || text(c) != text(api.Config{}) {
			t.Errorf("%q: %+v, %v", s, c, e)
		}
	}
}

func TestReadForm_P40_3(t *testing.T) {
	refused(t, api.EFORM,
		"", " ", "   ", "=", "fifo=", "fifo=1", "Fifo", "FIFO", "fif", "fifoo", "queue", "1", "cap=3", "cap=3 fifo", "fifo lifo", "fifo fifo", "hall hall",
		"hall cap=03", "hall cap=00", "hall cap=", "hall cap", "hall =3", "hall cap3", "hall cap==3", "hall cap=3=", "hall cap=3=4", "hall cap= 3", "hall cap =3", "hall cap = 3",
		"hall cap=+3", "hall cap=-3", "hall cap=-0", "hall cap=3.0", "hall cap=0x3", "hall cap=3_0", "hall cap=1e1", "hall cap=three", "hall cap=３", "hall cap=3,", "hall cap=3;threads=2",
		"hall tags=4294967296", "hall tags=18446744073709551617", "hall tags=99999999999999999999999999", "hall cap=4294967296",
		"hall Cap=3", "hall caps=3", "hall ca=3", "hall kind=3", "hall starts=1", "hall Start=1", "hall start", "hall start=", "hall start=01", "hall start=4294967296",
		"hall cap=3 cap=3", "hall cap=3 cap=4", "hall threads=1 cap=3 threads=1", "hall chans=1 chans=1", "fifo tags=5 tags=5", "fifo seqs=5 seqs=5", "hall gens=5 gens=5", "fifo nodes=5 nodes=5", "fifo retire=5 retire=5", "fifo patience=1 patience=1",
		"hall\tcap=3", "hall\ncap=3", "hall cap=3\n", "hall cap=3\t", "\thall", "hall\x00", "hall\u00a0cap=3", "hall \xff",
	)
	// What is wrong in its form is so ahead of what may not be.
	refused(t, api.EFORM, "fifo cap=99 cap=99", "fifo cap=99 x", "fifo threads=0 cap=03", "fifo start=1 start=x")
}

func TestReadLong_P40_3(t *testing.T) {
	line := "hall start=1"
	fits, long := line+strings.Repeat(" ", 400-len(line)), line+strings.Repeat(" ", 401-len(line))
	if c, e := shape.Read(fits); e != api.OK || !slices.Equal(c.Start, []int{1}) {
		t.Error(c, e)
	}
	refused(t, api.EFORM, long, strings.Repeat("x", 400), strings.Repeat("x", 401), strings.Repeat(" ", 400), "fifo"+strings.Repeat(" cap=99", 1000), strings.Repeat("fifo ", 1<<16))
	// As many starts as a line has room for are too many of a hall.
	refused(t, api.EARG, "hall"+strings.Repeat(" start=1", 49))
	refused(t, api.EFORM, "hall"+strings.Repeat(" start=1", 50))
}

func TestReadMayNot_P40_3(t *testing.T) {
	refused(t, api.EARG,
		"fifo cap=99", "fifo cap=0", "fifo cap=17", "lifo cap=17", "hall cap=9", "fifo threads=0", "fifo threads=65", "fifo nodes=0", "fifo nodes=65", "fifo retire=0", "fifo retire=33", "fifo patience=5",
		"fifo tags=0", "fifo seqs=0", "fifo seqs=1048576", "fifo chans=1", "fifo gens=1", "lifo chans=2 gens=4095", "fifo start=1", "lifo start=0", "hall chans=0", "hall chans=9", "hall gens=0", "hall gens=4096",
		"hall start=3", "hall start=0 start=0 start=0", "hall cap=1 start=2", "hall start=4294967295", "fifo cap=4294967295", "hall threads=4294967295",
	)
}

// What a line was read to is in memory of its own.
func TestReadApart_P40_3(t *testing.T) {
	a, _ := shape.Read("hall start=1 start=2")
	b, _ := shape.Read("hall start=1 start=2")
	a.Start[0] = 0
	if b.Start[0] != 1 {
		t.Error("memory is shared")
	}
}

// pick is a mixed number below n.
func pick(mixed *uint64, n int) int {
	*mixed = *mixed*6364136223846793005 + 1442695040888963407
	return int(*mixed >> 33 % uint64(n))
}

// anyShape is a mixed shape that may be.
func anyShape(mixed *uint64) api.Config {
	c := api.Config{
		Kind: 1 + pick(mixed, 3), Threads: 1 + pick(mixed, 64), Cap: 1 + pick(mixed, 16), Nodes: 1 + pick(mixed, 64), Retire: 1 + pick(mixed, 32), Patience: pick(mixed, 5),
		Tags: []int{1, 9, 1 + pick(mixed, 1<<30), 1<<32 - 1}[pick(mixed, 4)], Seqs: []int{1, 1 + pick(mixed, 1<<19), 1<<20 - 1}[pick(mixed, 3)],
	}
	if c.Kind == api.KHall {
		c.Chans, c.Cap, c.Gens = 1+pick(mixed, 8), pick(mixed, 9), 1+pick(mixed, 4095)
		for range pick(mixed, c.Chans+1) {
			c.Start = append(c.Start, pick(mixed, c.Cap+1))
		}
	}
	return c
}

func TestReadAgain_P40_4(t *testing.T) {
	mixed := uint64(3)
	for range 20000 {
		c := anyShape(&mixed)
		s := shape.Text(c)
		got, e := shape.Read(s)
		if s == "" || e != api.OK || !shape.Same(got, c) || text(got) != text(c) {
			t.Fatalf("%+v: %q, %+v, %v", c, s, got, e)
		}
		// The words behind the kind may stand in any order, but that of the starts.
		words := strings.Split(s, " ")
		first := 1 + slices.IndexFunc(words[1:], func(w string) bool { return strings.HasPrefix(w, "start=") })
		if first == 0 {
			first = len(words)
		}
		slices.Reverse(words[1:first])
		if got, e := shape.Read(strings.Join(words, " ")); e != api.OK || text(got) != text(c) {
			t.Fatalf("%q: %+v, %v", words, got, e)
		}
	}
}

// Of the longest numbers, too.
func TestReadAgainEdges_P40_4(t *testing.T) {
	for _, c := range []api.Config{full(), plain(1), plain(2), plain(3), made(3, func(c *api.Config) {
		c.Threads, c.Chans, c.Cap, c.Nodes, c.Retire, c.Start = 64, 8, 8, 64, 32, slices.Repeat([]int{8}, 8)
	})} {
		if got, e := shape.Read(shape.Text(c)); e != api.OK || text(got) != text(c) {
			t.Errorf("%+v: %+v, %v", c, got, e)
		}
	}
}
