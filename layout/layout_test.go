package layout_test

import (
	"fmt"
	"math"
	"slices"
	"testing"

	"stopgate/api"
	"stopgate/code"
	"stopgate/layout"
	"stopgate/object"
)

func hall(threads, nodes, chans, capacity int, start ...int) api.Config {
	return api.Config{Kind: api.KHall, Threads: threads, Chans: chans, Cap: capacity, Nodes: nodes, Retire: 2, Patience: 1, Tags: 9, Seqs: 9, Gens: 9, Start: start}
}

func cells(kind, threads, nodes, capacity int) api.Config {
	return api.Config{Kind: kind, Threads: threads, Cap: capacity, Nodes: nodes, Retire: 2, Patience: 1, Tags: 9, Seqs: 9}
}

// text tells all fields of things, nil lists as empty ones: what has the same text is the same.
func text(l ...any) string { return fmt.Sprintf("%+v", l) }

// odd is numbers that hardly anything may be.
var odd = []int{math.MinInt, math.MinInt + 1, -1 << 32, -2, -1, 1 << 32, 1 << 53, math.MaxInt - 1, math.MaxInt}

// good is shapes that may be, with their records' sizes.
func good() map[int]api.Config {
	return map[int]api.Config{
		3:   cells(api.KLifo, 1, 1, 1),
		4:   cells(api.KFifo, 2, 3, 1),
		81:  cells(api.KFifo, 64, 64, 16),
		7:   hall(1, 1, 1, 0),
		23:  hall(3, 4, 1, 6, 6),
		373: hall(60, 5, 8, 8, 1, 2),
	}
}

// bad is shapes that may not be.
func bad() []api.Config {
	l := []api.Config{
		{}, hall(0, 1, 1, 1), hall(65, 1, 1, 1), hall(1, 0, 1, 1), hall(1, 65, 1, 1), hall(1, 1, 0, 1), hall(1, 1, 9, 1), hall(1, 1, 1, 9), hall(1, 1, 1, 1, 2),
		cells(api.KFifo, 1, 1, 0), cells(api.KLifo, 1, 1, 17), cells(api.KFifo, 65, 1, 1), cells(api.KHall, 1, 1, 1), cells(4, 1, 1, 1), cells(0, 2, 2, 2),
	}
	for _, n := range odd {
		l = append(l, hall(n, 1, 1, 1), hall(1, n, 1, 1), hall(1, 1, n, 1), hall(1, 1, 1, n), hall(1, 1, 1, 1, n), cells(api.KFifo, n, 1, 1), cells(api.KLifo, 1, n, 1), cells(n, 1, 1, 1))
	}
	return l
}

// huge is shapes that may be, and of which no machine may be.
func huge() []api.Config {
	return []api.Config{hall(52, 62, 7, 8), hall(54, 63, 4, 8), hall(54, 63, 6, 5), hall(59, 59, 4, 0), hall(64, 64, 8, 8), hall(64, 64, 8, 8, 8, 8)}
}

func TestSums_P15_1(t *testing.T) {
	for _, c := range slices.Concat(bad(), huge(), []api.Config{cells(api.KFifo, 2, 3, 1), hall(5, 1, 1, 1), {Threads: 7}, {Threads: -7}}) {
		for _, n := range append([]int{0, 1, 2, 3, 63, 64, 1000}, odd...) {
			threads := c.Threads
			got := []int{layout.Seq(c, n), layout.Args(c, n), layout.Hazard(c, n), layout.Epoch(c, n), layout.Mail(c, n)}
			want := []int{3 + n, 3 + threads + 5*n, 3 + 6*threads + n, 3 + 7*threads + n, 3 + 8*threads + n}
			if !slices.Equal(got, want) {
				t.Errorf("%+v, thread %d: %d, not %d", c, n, got, want)
			}
		}
	}
}

// No two threads share a word, and none has one of the first three.
func TestApart_P15_1(t *testing.T) {
	for _, c := range good() {
		var all []int
		for n := range c.Threads {
			all = append(all, layout.Seq(c, n), layout.Hazard(c, n), layout.Epoch(c, n), layout.Mail(c, n))
			for i := range api.Words {
				all = append(all, layout.Args(c, n)+i)
			}
		}
		slices.Sort(all)
		for i, addr := range all {
			if addr != i+3 {
				t.Fatalf("%+v: %d at %d", c, addr, i)
			}
		}
		if len(all) != layout.Node(c, 0)-3 {
			t.Errorf("%+v: %d words", c, len(all))
		}
	}
}

func TestExample_P15_1_P15_2_P15_4(t *testing.T) {
	c := cells(api.KFifo, 2, 3, 1)
	if layout.Total(c) != 56 || layout.Node(c, 0) != 21 || layout.Nodes(c) != 7 || layout.Node(c, 6) != 51 {
		t.Error(layout.Total(c), layout.Node(c, 0), layout.Nodes(c), layout.Node(c, 6))
	}
	if sort, of, place := layout.What(c, 13); sort != api.SArgs || of != 1 || place != 3 {
		t.Error(sort, of, place)
	}
}

func TestNode_P15_2(t *testing.T) {
	for size, c := range good() {
		if got, want := layout.Nodes(c), 1+c.Threads*c.Nodes; got != want {
			t.Errorf("%+v: %d nodes, not %d", c, got, want)
		}
		if got, want := layout.Total(c), 3+9*c.Threads+(1+c.Threads*c.Nodes)*(1+size); got != want {
			t.Errorf("%+v: %d words, not %d", c, got, want)
		}
		for _, i := range append([]int{0, 1, 2, 63, 64, 4096, 65534}, odd...) {
			if got, want := layout.Node(c, i), 3+9*c.Threads+i*(1+size); got != want {
				t.Errorf("%+v: node %d at %d, not %d", c, i, got, want)
			}
		}
	}
	// Of a shape that may not be the size is 0, and the sums stand.
	for _, c := range bad() {
		if layout.Nodes(c) != 0 || layout.Total(c) != 0 {
			t.Errorf("%+v: %d nodes, %d words", c, layout.Nodes(c), layout.Total(c))
		}
		for _, i := range append([]int{0, 1, 7}, odd...) {
			if got, want := layout.Node(c, i), 3+9*c.Threads+i; got != want {
				t.Errorf("%+v: node %d at %d, not %d", c, i, got, want)
			}
		}
	}
}

func TestCheck_P15_2(t *testing.T) {
	for _, c := range good() {
		if e := layout.Check(c); e != api.OK {
			t.Errorf("%+v: %v", c, e)
		}
	}
	for _, c := range bad() {
		if e := layout.Check(c); e != api.EARG {
			t.Errorf("%+v: %v", c, e)
		}
	}
	for _, c := range huge() {
		if e := layout.Check(c); e != api.ELONG {
			t.Errorf("%+v: %v", c, e)
		}
	}
	for _, x := range []struct {
		c     api.Config
		total int
		e     api.Errno
	}{
		{hall(51, 64, 8, 7), 1<<20 - 49, api.OK},
		{hall(62, 44, 8, 8), 1<<20 - 79, api.OK},
		{hall(62, 48, 5, 7), 1<<20 - 111, api.OK},
		{hall(52, 62, 7, 8), 1<<20 + 20, api.ELONG},
		{hall(54, 63, 6, 5), 1<<20 + 37, api.ELONG},
		{hall(64, 64, 8, 8), 579 + 4097*394, api.ELONG},
		{cells(api.KLifo, 64, 64, 16), 579 + 4097*82, api.OK},
	} {
		if total, e := layout.Total(x.c), layout.Check(x.c); total != x.total || e != x.e {
			t.Errorf("%+v: %d words, %v", x.c, total, e)
		}
		if m, e := layout.Setup(x.c); e != x.e || e == api.OK && m.Size() != x.total {
			t.Errorf("%+v: %d words, %v", x.c, m.Size(), e)
		}
	}
}

func TestSetup_P15_3(t *testing.T) {
	for size, c := range good() {
		m, e := layout.Setup(c)
		if e != api.OK {
			t.Fatalf("%+v: %v", c, e)
		}
		want := make([]uint64, 3+9*c.Threads+(1+c.Threads*c.Nodes)*(1+size))
		want[0] = 65537
		want[3+9*c.Threads] = 1
		copy(want[3+9*c.Threads+1:], object.Start(c))
		if !slices.Equal(m.All(), want) {
			t.Errorf("%+v: %x", c, m.All())
		}
		if m.Count(0) != 0 || len(m.Log()) != 0 {
			t.Errorf("%+v: %d accesses", c, m.Count(0))
		}
	}
	// A channel that is there at first is in node 0's record, and in no other.
	c := hall(1, 1, 2, 1, 1, 0)
	m, _ := layout.Setup(c)
	if m.Peek(14) != 1|1<<12|1<<16 || m.Peek(16) != 1|1<<16 || m.Peek(12) != 1 || m.Size() != 12+2*11 {
		t.Errorf("%x", m.All())
	}
}

func TestSetupApart_P15_3(t *testing.T) {
	c := cells(api.KFifo, 2, 3, 1)
	a, _ := layout.Setup(c)
	b, _ := layout.Setup(c)
	a.Store(0, 5, 7)
	if b.Peek(5) != 0 || b.Count(0) != 0 {
		t.Error("two machines share words")
	}
	a.Keep(false)
	if b.Store(1, 6, 7); len(b.Log()) != 0 {
		t.Error("accesses are noted at first")
	}
}

func TestSetupRefuses_P15_3(t *testing.T) {
	for _, c := range bad() {
		if m, e := layout.Setup(c); m != nil || e != api.EARG {
			t.Errorf("%+v: %v, %v", c, m, e)
		}
	}
	for _, c := range huge() {
		if m, e := layout.Setup(c); m != nil || e != api.ELONG {
			t.Errorf("%+v: %v, %v", c, m, e)
		}
	}
}

func TestPool_P15_3(t *testing.T) {
	for _, c := range good() {
		var seen []int
		for n := range c.Threads {
			p := layout.Pool(c, n)
			var want api.Pool
			for i := range c.Nodes {
				want.Free = append(want.Free, api.Slot{Index: 1 + n*c.Nodes + i})
				seen = append(seen, p.Free[i].Index)
			}
			if text(p) != text(want) {
				t.Errorf("%+v, thread %d: %+v", c, n, p)
			}
			p.Free[0].Tag = 7
			if layout.Pool(c, n).Free[0].Tag != 0 {
				t.Error("memory is shared")
			}
		}
		// All nodes but the root's first one are somebody's, each of one.
		if slices.Sort(seen); len(seen) != layout.Nodes(c)-1 || seen[0] != 1 || len(slices.Compact(seen)) != layout.Nodes(c)-1 {
			t.Errorf("%+v: %d", c, seen)
		}
		for _, n := range append([]int{c.Threads, c.Threads + 1}, odd...) {
			if p := layout.Pool(c, n); text(p) != text(api.Pool{}) {
				t.Errorf("%+v, thread %d: %+v", c, n, p)
			}
		}
	}
	for _, c := range append(bad(), huge()...) {
		for _, n := range []int{0, 1, 63, -1} {
			if p := layout.Pool(c, n); text(p) != text(api.Pool{}) {
				t.Errorf("%+v, thread %d: %+v", c, n, p)
			}
		}
	}
}

// words is what lies at each address of a shape, as the words say it, one behind the other.
func words(c api.Config) [][3]int {
	l := [][3]int{{1, 0, 0}, {2, 0, 0}, {3, 0, 0}}
	for n := range c.Threads {
		l = append(l, [3]int{4, n, 0})
	}
	for n := range c.Threads {
		for i := range 5 {
			l = append(l, [3]int{5, n, i})
		}
	}
	for sort := 6; sort <= 8; sort++ {
		for n := range c.Threads {
			l = append(l, [3]int{sort, n, 0})
		}
	}
	for i := range 1 + c.Threads*c.Nodes {
		l = append(l, [3]int{9, i, 0})
		for j := range code.Size(c) {
			l = append(l, [3]int{10, i, j})
		}
	}
	return l
}

func TestWhat_P15_4(t *testing.T) {
	for _, c := range good() {
		want := words(c)
		if len(want) != layout.Total(c) {
			t.Fatal(len(want))
		}
		for addr, w := range want {
			if sort, of, place := layout.What(c, addr); [3]int{sort, of, place} != w {
				t.Fatalf("%+v: at %d %d %d %d, not %d", c, addr, sort, of, place, w)
			}
		}
		nothing(t, c, append([]int{len(want), len(want) + 1, 1 << 20}, odd...))
	}
	for _, c := range bad() {
		nothing(t, c, append([]int{0, 1, 2, 3, 30, 3000}, odd...))
	}
}

// nothing asks that no words lie at addresses.
func nothing(t *testing.T, c api.Config, addrs []int) {
	t.Helper()
	for _, addr := range addrs {
		if sort, of, place := layout.What(c, addr); sort != 0 || of != 0 || place != 0 {
			t.Errorf("%+v: at %d %d %d %d", c, addr, sort, of, place)
		}
	}
}

// The sums say where the words lie that What tells.
func TestWhatSums_P15_1_P15_4(t *testing.T) {
	c := hall(3, 4, 2, 3, 1)
	for n := range c.Threads {
		for _, x := range []struct{ addr, sort, place int }{
			{layout.Seq(c, n), api.SSeq, 0}, {layout.Args(c, n), api.SArgs, 0}, {layout.Args(c, n) + 4, api.SArgs, 4},
			{layout.Hazard(c, n), api.SHazard, 0}, {layout.Epoch(c, n), api.SEpoch, 0}, {layout.Mail(c, n), api.SMail, 0},
		} {
			if sort, of, place := layout.What(c, x.addr); sort != x.sort || of != n || place != x.place {
				t.Errorf("thread %d: %d: %d %d %d", n, x.addr, sort, of, place)
			}
		}
	}
	for i := range layout.Nodes(c) {
		at := layout.Node(c, i)
		if sort, of, place := layout.What(c, at); sort != api.STag || of != i || place != 0 {
			t.Error(i, sort, of, place)
		}
		if sort, of, place := layout.What(c, at+code.Size(c)); sort != api.SRecord || of != i || place != code.Size(c)-1 {
			t.Error(i, sort, of, place)
		}
	}
}

// What lies where hangs on the sums alone, also of a shape whose words would be too many.
func TestWhatHuge_P15_4(t *testing.T) {
	c := hall(64, 64, 8, 8)
	for _, x := range [][4]int{{0, 1, 0, 0}, {66, 4, 63, 0}, {578, 8, 63, 0}, {579, 9, 0, 0}, {579 + 4096*394, 9, 4096, 0}, {579 + 4097*394 - 1, 10, 4096, 392}, {579 + 4097*394, 0, 0, 0}} {
		if sort, of, place := layout.What(c, x[0]); [4]int{x[0], sort, of, place} != x {
			t.Error(x, sort, of, place)
		}
	}
}

// What a shape says is not changed.
func TestKeeps_P15_1_P15_2_P15_3_P15_4(t *testing.T) {
	c := hall(2, 2, 2, 2, 2, 1)
	before := text(c)
	m, _ := layout.Setup(c)
	c.Start[0] = 0
	if m.Peek(layout.Node(c, 0)+2) != 1|2<<12|1<<16 {
		t.Error("Start is kept")
	}
	c.Start[0] = 2
	layout.Total(c)
	layout.Pool(c, 1)
	layout.What(c, 30)
	if text(c) != before {
		t.Error("the shape has changed")
	}
}
