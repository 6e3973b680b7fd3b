package mem_test

import (
	"math"
	"slices"
	"testing"

	"stopgate/api"
	"stopgate/mem"
)

// seen is all that a row tells.
type seen struct {
	words []uint64
	log   []api.Access
	count [api.MaxThreads]int
}

func look(m *mem.Mem) seen {
	s := seen{words: slices.Clone(m.All()), log: slices.Clone(m.Log())} // kept apart from the row, even if its answers are not
	for t := range s.count {
		s.count[t] = m.Count(t)
	}
	return s
}

func same(a, b seen) bool {
	return slices.Equal(a.words, b.words) && slices.Equal(a.log, b.log) && a.count == b.count
}

func TestNew_P3_1(t *testing.T) {
	for _, n := range []int{0, -1, math.MinInt, api.MaxWords + 1, math.MaxInt} {
		if mem.New(n) != nil {
			t.Errorf("New(%d) is a row", n)
		}
	}
	for _, n := range []int{1, 2, 77, api.MaxWords} {
		m := mem.New(n)
		if m == nil || m.Size() != n || len(m.All()) != n || slices.Max(m.All()) != 0 {
			t.Errorf("New(%d) is not %d words 0", n, n)
		}
	}
}

func TestExample_P3_2(t *testing.T) {
	m := mem.New(2)
	m.Keep(true)
	if e := m.Store(1, 0, 7); e != api.OK {
		t.Error(e)
	}
	if ok, e := m.Swap(2, 0, 7, 9); !ok || e != api.OK {
		t.Error(ok, e)
	}
	if x, e := m.Add(1, 0, 1); x != 9 || e != api.OK {
		t.Error(x, e)
	}
	if x, e := m.Load(1, 2); x != 0 || e != api.EADDR {
		t.Error(x, e)
	}
	if len(m.Log()) != 3 || m.Count(1) != 2 || m.Count(2) != 1 {
		t.Error(m.Log(), m.Count(1), m.Count(2))
	}
}

// Each access: what it answers, what is there behind it, and its note.
func TestAccess_P3_2(t *testing.T) {
	m := mem.New(3)
	m.Poke(0, 5, 6, 7)
	m.Keep(true)
	if x, e := m.Load(4, 1); x != 6 || e != api.OK || m.Peek(1) != 6 {
		t.Error("Load", x, e)
	}
	if e := m.Store(4, 2, 70); e != api.OK || m.Peek(2) != 70 {
		t.Error("Store", e)
	}
	if ok, e := m.Swap(5, 0, 5, 50); !ok || e != api.OK || m.Peek(0) != 50 {
		t.Error("Swap", ok, e)
	}
	if ok, e := m.Swap(5, 0, 5, 51); ok || e != api.OK || m.Peek(0) != 50 {
		t.Error("Swap in vain", ok, e)
	}
	if ok, e := m.Swap(5, 0, 50, 50); !ok || e != api.OK || m.Peek(0) != 50 {
		t.Error("Swap for the same", ok, e)
	}
	if x, e := m.Add(6, 1, math.MaxUint64); x != 6 || e != api.OK || m.Peek(1) != 5 {
		t.Error("Add goes round", x, e)
	}
	want := []api.Access{
		{Thread: 4, Kind: 1, Addr: 1, Old: 6, Now: 6, Ok: true},
		{Thread: 4, Kind: 2, Addr: 2, Old: 7, Now: 70, Ok: true},
		{Thread: 5, Kind: 3, Addr: 0, Want: 5, Old: 5, Now: 50, Ok: true},
		{Thread: 5, Kind: 3, Addr: 0, Want: 5, Old: 50, Now: 50},
		{Thread: 5, Kind: 3, Addr: 0, Want: 50, Old: 50, Now: 50, Ok: true},
		{Thread: 6, Kind: 4, Addr: 1, Old: 6, Now: 5, Ok: true},
	}
	if got := m.Log(); !slices.Equal(got, want) {
		t.Errorf("notes %v, not %v", got, want)
	}
	if !slices.Equal(m.All(), []uint64{50, 5, 70}) {
		t.Error(m.All())
	}
}

func TestNoSuchWord_P3_2(t *testing.T) {
	m := mem.New(3)
	m.Poke(0, 1, 2, 3)
	m.Keep(true)
	m.Load(0, 0)
	before := look(m)
	for _, addr := range []int{-1, 3, 4, math.MinInt, math.MaxInt} {
		if x, e := m.Load(0, addr); x != 0 || e != api.EADDR {
			t.Error("Load", addr, x, e)
		}
		if e := m.Store(0, addr, 9); e != api.EADDR {
			t.Error("Store", addr, e)
		}
		if ok, e := m.Swap(0, addr, 0, 9); ok || e != api.EADDR {
			t.Error("Swap", addr, ok, e)
		}
		if x, e := m.Add(0, addr, 9); x != 0 || e != api.EADDR {
			t.Error("Add", addr, x, e)
		}
	}
	if !same(before, look(m)) {
		t.Error("an access of no word was one", look(m))
	}
}

// All threads may access; those of 0 to 63 are counted, each kind, noted or not, in vain or not.
func TestThreads_P3_2(t *testing.T) {
	m := mem.New(1)
	threads := []int{math.MinInt, -1, 0, 1, 62, 63, 64, math.MaxInt}
	for _, keep := range []bool{false, true} {
		m.Keep(keep)
		for _, x := range threads {
			m.Load(x, 0)
			m.Store(x, 0, 3)
			m.Swap(x, 0, 3, 4)
			m.Swap(x, 0, 3, 4)
			m.Add(x, 0, 1)
		}
	}
	for _, x := range threads {
		want := 10
		if x < 0 || x > 63 {
			want = 0
		}
		if got := m.Count(x); got != want {
			t.Errorf("Count(%d) = %d, not %d", x, got, want)
		}
	}
	if m.Count(2) != 0 {
		t.Error("a thread that did nothing counts", m.Count(2))
	}
	log := m.Log()
	if len(log) != 5*len(threads) {
		t.Fatal(len(log))
	}
	for i, a := range log {
		if a.Thread != threads[i/5] || a.Addr != 0 {
			t.Errorf("note %d: %v", i, a)
		}
	}
}

func TestKeep_P3_2(t *testing.T) {
	m := mem.New(1)
	m.Store(0, 0, 1)
	if len(m.Log()) != 0 {
		t.Error("noted at first")
	}
	m.Keep(true)
	m.Store(0, 0, 2)
	m.Keep(true)
	m.Store(0, 0, 3)
	m.Keep(false)
	m.Store(0, 0, 4)
	m.Keep(false)
	m.Store(0, 0, 5)
	m.Keep(true)
	m.Store(0, 0, 6)
	var now []uint64
	for _, a := range m.Log() {
		now = append(now, a.Now)
	}
	if !slices.Equal(now, []uint64{2, 3, 6}) || m.Count(0) != 6 {
		t.Error(now, m.Count(0))
	}
}

func TestPeekPoke_P3_3(t *testing.T) {
	m := mem.New(4)
	m.Keep(true)
	l := []uint64{1, 2, 3, 4}
	if e := m.Poke(0, l...); e != api.OK || !slices.Equal(m.All(), l) {
		t.Error(e, m.All())
	}
	if e := m.Poke(2, 8, 9); e != api.OK || !slices.Equal(m.All(), []uint64{1, 2, 8, 9}) {
		t.Error(e, m.All())
	}
	for addr := range 5 {
		if e := m.Poke(addr); e != api.OK {
			t.Error("no words at", addr, e)
		}
	}
	before := m.All()
	for _, c := range []struct {
		addr int
		l    []uint64
	}{
		{-1, nil}, {5, nil}, {math.MinInt, nil}, {math.MaxInt, nil}, {4, []uint64{7}}, {3, []uint64{7, 7}}, {0, make([]uint64, 5)},
		{-1, []uint64{7}}, {math.MaxInt, []uint64{7}}, {math.MinInt, []uint64{7}},
	} {
		if e := m.Poke(c.addr, c.l...); e != api.EADDR || !slices.Equal(m.All(), before) {
			t.Errorf("Poke(%d, %v) = %v, and the words are %v", c.addr, c.l, e, m.All())
		}
	}
	for addr, x := range before {
		if m.Peek(addr) != x {
			t.Error("Peek", addr)
		}
	}
	for _, addr := range []int{-1, 4, math.MinInt, math.MaxInt} {
		if m.Peek(addr) != 0 {
			t.Error("Peek", addr)
		}
	}
	if len(m.Log()) != 0 || look(m).count != [api.MaxThreads]int{} {
		t.Error("a peek or a poke is an access", m.Log())
	}
}

func TestCountOfOthers_P3_3(t *testing.T) {
	m := mem.New(1)
	for _, x := range []int{-1, 64, math.MinInt, math.MaxInt} {
		m.Load(x, 0)
		if m.Count(x) != 0 {
			t.Error(x, m.Count(x))
		}
	}
}

// What is handed in is not kept, and what is handed out is not the row's own.
func TestNewMemory_P3_3(t *testing.T) {
	m := mem.New(2)
	l := make([]uint64, 2, 9)
	l[0], l[1] = 5, 6
	m.Poke(0, l...)
	m.Keep(true)
	m.Load(1, 0)
	l[0] = 77
	before := look(m)
	m.All()[0] = 88
	m.Log()[0].Addr = 99
	_ = append(m.All(), 1)
	_ = append(m.Log(), api.Access{})
	if !same(before, look(m)) || m.Peek(0) != 5 {
		t.Error(look(m))
	}
	words, log := m.All(), m.Log()
	m.Store(1, 1, 9)
	if words[1] != 6 || len(log) != 1 {
		t.Error("an answer changed behind", words, log)
	}
}

func TestCopy_P3_3(t *testing.T) {
	m := mem.New(3)
	m.Keep(true)
	m.Store(1, 0, 7)
	m.Load(2, 0)
	m.Load(2, 0)
	n := m.Copy()
	before := look(m)
	if !same(before, look(n)) || n.Size() != 3 {
		t.Fatal(look(n))
	}
	n.Store(3, 1, 8)
	if !same(before, look(m)) {
		t.Error("a copy's access is the row's", look(m))
	}
	if log := n.Log(); len(log) != 4 || log[3].Now != 8 || n.Count(3) != 1 || n.Peek(1) != 8 {
		t.Error("a copy does not note", log)
	}
	behind := look(n)
	m.Store(4, 2, 9)
	m.Keep(false)
	if !same(behind, look(n)) {
		t.Error("the row's access is its copy's", look(n))
	}
	n.Load(5, 0)
	if len(n.Log()) != 5 {
		t.Error("the row's noting is its copy's")
	}
	if o := m.Copy(); o.Store(0, 0, 1) != api.OK || len(o.Log()) != 4 {
		t.Error("a copy of one that does not note notes")
	}
}

func TestNoRow_P3_1_P3_2_P3_3(t *testing.T) {
	for _, m := range []*mem.Mem{nil, {}} {
		m.Keep(true)
		if x, e := m.Load(0, 0); x != 0 || e != api.ENIL {
			t.Error("Load", x, e)
		}
		if e := m.Store(0, -1, 1); e != api.ENIL {
			t.Error("Store", e)
		}
		if ok, e := m.Swap(0, 0, 0, 1); ok || e != api.ENIL {
			t.Error("Swap", ok, e)
		}
		if x, e := m.Add(0, 0, 1); x != 0 || e != api.ENIL {
			t.Error("Add", x, e)
		}
		if m.Poke(0) != api.ENIL || m.Poke(-1, 1) != api.ENIL {
			t.Error("Poke")
		}
		if m.Size() != 0 || m.Peek(0) != 0 || len(m.All()) != 0 || len(m.Log()) != 0 || m.Count(0) != 0 || m.Copy() != nil {
			t.Error("a row that was not made tells something")
		}
	}
}
