package retire_test

import (
	"math"
	"slices"
	"testing"

	"stopgate/api"
	"stopgate/pool"
	"stopgate/ref"
	"stopgate/retire"
)

func old(index, tag, stamp int) api.Old {
	return api.Old{Ref: api.Ref{Index: index, Tag: tag}, Stamp: stamp}
}

func word(index, tag int) uint64 { return ref.Word(api.Ref{Index: index, Tag: tag}) }

func TestPast_P6_1(t *testing.T) {
	for stamp := -4; stamp < 6; stamp++ {
		for g := -4; g < 9; g++ {
			want := stamp >= 0 && g >= 0 && stamp+2 <= g
			if got := retire.Past(stamp, g); got != want {
				t.Errorf("Past(%d, %d) = %v", stamp, g, got)
			}
		}
	}
	for _, c := range []struct {
		stamp, g int
		want     bool
	}{
		{0, math.MaxInt, true},
		{math.MaxInt - 2, math.MaxInt, true},
		{math.MaxInt - 1, math.MaxInt, false},
		{math.MaxInt, math.MaxInt, false},
		{math.MaxInt, 0, false},
		{math.MaxInt, 1, false},
		{math.MaxInt, -1, false},
		{math.MaxInt, math.MinInt, false},
		{math.MinInt, math.MaxInt, false},
		{math.MinInt, math.MinInt, false},
		{math.MinInt, 0, false},
		{0, math.MinInt, false},
		{-1, 5, false},
		{-3, -1, false},
	} {
		if got := retire.Past(c.stamp, c.g); got != c.want {
			t.Errorf("Past(%d, %d) = %v", c.stamp, c.g, got)
		}
	}
}

func TestByEpoch_P6_1(t *testing.T) {
	olds := []api.Old{old(1, 1, 4), old(2, 7, 3), old(3, 1, -1), old(4, 0, 0), old(5, 1, math.MaxInt), old(6, 1, 3)}
	p := api.Pool{Own: api.Ref{Index: 9, Tag: 9}, Free: []api.Slot{{Index: 8, Tag: 8}}, Old: olds, Spent: 2}
	for g, want := range map[int][]api.Old{ // what is freed
		math.MinInt: nil,
		-1:          nil,
		1:           nil,
		2:           {olds[3]},
		4:           {olds[3]},
		5:           {olds[1], olds[3], olds[5]},
		6:           {olds[0], olds[1], olds[3], olds[5]},
		math.MaxInt: {olds[0], olds[1], olds[3], olds[5]},
	} {
		got, n := retire.ByEpoch(p, g)
		freed := slices.Clone(p.Free)
		for _, o := range want {
			freed = append(freed, api.Slot{Index: o.Ref.Index, Tag: o.Ref.Tag})
		}
		left := slices.DeleteFunc(slices.Clone(olds), func(o api.Old) bool { return slices.Contains(want, o) })
		if n != len(want) || !pool.Same(got, api.Pool{Own: p.Own, Free: freed, Old: left, Spent: 2}) {
			t.Errorf("ByEpoch at %d: %v, %d", g, got, n)
		}
	}
	if got, n := retire.ByEpoch(api.Pool{}, 9); n != 0 || !pool.Same(got, api.Pool{}) {
		t.Error(got, n)
	}
}

func TestExample_P6_1(t *testing.T) {
	p := pool.Away(pool.Away(api.Pool{}, api.Ref{Index: 1, Tag: 1}, 3), api.Ref{Index: 2, Tag: 1}, 4)
	q, n := retire.ByEpoch(p, 5)
	if n != 1 || !pool.Same(q, api.Pool{Free: []api.Slot{{Index: 1, Tag: 1}}, Old: []api.Old{old(2, 1, 4)}}) {
		t.Error(q, n)
	}
}

func TestBySlotsHeld_P6_2(t *testing.T) {
	bad := old(-1, 1, 0) // its word is 0
	olds := []api.Old{old(1, 1, 0), old(2, 3, 1), bad, old(1, 2, 2), old(1, 1, 3)}
	p := api.Pool{Own: api.Ref{Index: 2, Tag: 3}, Free: []api.Slot{{Index: 8, Tag: 8}}, Old: olds, Spent: 2}
	for _, c := range []struct {
		what  string
		slots []uint64
		held  []int // places of olds
	}{
		{"nil", nil, nil},
		{"no slots", []uint64{}, nil},
		{"other names", []uint64{word(1, 3), word(3, 3), word(2, 1)}, nil},
		{"one", []uint64{word(2, 3)}, []int{1}},
		{"one, twice put away", []uint64{word(1, 1)}, []int{0, 4}},
		{"another tag", []uint64{word(1, 2), word(1, 2)}, []int{3}},
		{"0 is the word of what may not be", []uint64{0}, []int{2}},
		{"threads that read", []uint64{0, word(1, 2), 0, word(2, 3), word(9, 9)}, []int{1, 2, 3}},
		{"words of no name", []uint64{1, 65536, math.MaxUint64, 2}, nil},
		{"all", []uint64{word(1, 2), word(2, 3), word(1, 1), 0}, []int{0, 1, 2, 3, 4}},
	} {
		var names []api.Ref
		var left []api.Old
		free := slices.Clone(p.Free)
		for i, o := range olds {
			if slices.Contains(c.held, i) {
				names, left = append(names, o.Ref), append(left, o)
			} else {
				free = append(free, api.Slot{Index: o.Ref.Index, Tag: o.Ref.Tag})
			}
		}
		got, n := retire.BySlots(p, c.slots)
		if n != len(olds)-len(left) || !pool.Same(got, api.Pool{Own: p.Own, Free: free, Old: left, Spent: 2}) {
			t.Errorf("%s: BySlots is %v, %d", c.what, got, n)
		}
		if got := retire.Held(p, c.slots); !slices.Equal(got, names) {
			t.Errorf("%s: Held is %v, not %v", c.what, got, names)
		}
	}
	if got := retire.Held(api.Pool{Own: api.Ref{Index: 1, Tag: 1}}, []uint64{word(1, 1)}); len(got) != 0 {
		t.Error("a node that is not put away is held", got)
	}
}

func TestNeeds_P6_3(t *testing.T) {
	two := []api.Old{old(1, 1, 0), old(2, 1, 0)}
	free := []api.Slot{{Index: 3}}
	for _, c := range []struct {
		what  string
		p     api.Pool
		limit int
		want  bool
	}{
		{"nothing", api.Pool{}, 0, false},
		{"nothing put away", api.Pool{Free: free}, 0, false},
		{"nothing put away, limit below 0", api.Pool{Free: free}, -1, false},
		{"nothing there, limit below 0", api.Pool{Spent: 3}, math.MinInt, false},
		{"below the limit", api.Pool{Free: free, Old: two}, 3, false},
		{"below a huge limit", api.Pool{Own: api.Ref{Index: 5, Tag: 1}, Old: two}, math.MaxInt, false},
		{"the limit", api.Pool{Free: free, Old: two}, 2, true},
		{"above the limit", api.Pool{Free: free, Old: two}, 1, true},
		{"limit 0", api.Pool{Free: free, Old: two}, 0, true},
		{"limit below 0", api.Pool{Free: free, Old: two[:1]}, math.MinInt, true},
		{"none can be taken", api.Pool{Old: two}, 3, true},
		{"none can be taken, own of tag 0", api.Pool{Own: api.Ref{Index: 5}, Old: two[:1]}, math.MaxInt, true},
	} {
		if got := retire.Needs(c.p, c.limit); got != c.want {
			t.Errorf("%s: %v", c.what, got)
		}
	}
}

func TestMost_P6_3(t *testing.T) {
	for _, c := range []struct {
		slots []uint64
		want  int
	}{
		{nil, 0},
		{[]uint64{0, 0, 1, 65535, 65536, 131072, 1 << 48, math.MaxUint64}, 0},
		{[]uint64{65537}, 1},
		{[]uint64{65537, 0, 65537, 65537}, 1},
		{[]uint64{65537, 65538, 131073, 0, 65538}, 3},
		{[]uint64{1<<48 - 1, 1<<48 | 1, 1<<48 - 1}, 1},
	} {
		if got := retire.Most(c.slots); got != c.want {
			t.Errorf("Most(%x) = %d, not %d", c.slots, got, c.want)
		}
	}
}

// numbers is a row of numbers that are mixed, the same each time.
func numbers() func(n int) int {
	x := uint64(7)
	return func(n int) int {
		x = x*6364136223846793005 + 1442695040888963407
		return int(x >> 33 % uint64(n))
	}
}

// Behind a look by slots no more unlike names are put away than slots name; what is past stays past.
func TestWhatFollows_P6_1_P6_2_P6_3(t *testing.T) {
	next := numbers()
	for range 2000 {
		var p api.Pool
		for i := range next(12) {
			p = pool.Away(p, api.Ref{Index: i, Tag: 1 + next(2)}, next(8))
		}
		var slots []uint64
		for range next(8) {
			slots = append(slots, uint64(next(3))<<16+uint64(next(14)))
		}
		q, n := retire.BySlots(p, slots)
		if len(q.Old) > retire.Most(slots) || n+len(q.Old) != len(p.Old) {
			t.Fatal(p, slots, q, n)
		}
		var names []api.Ref
		for _, o := range q.Old {
			names = append(names, o.Ref)
		}
		if got := retire.Held(p, slots); !slices.Equal(got, names) {
			t.Fatal(got, names)
		}
		for g := range 10 {
			_, now := retire.ByEpoch(p, g)
			if _, later := retire.ByEpoch(p, g+1); later < now {
				t.Fatal(p, g, now, later)
			}
		}
	}
}

func TestNewMemory_P6_1_P6_2(t *testing.T) {
	free, olds := make([]api.Slot, 6), []api.Old{old(1, 1, 0), old(2, 1, 5), old(3, 1, 0), old(4, 1, 5)}
	slots := []uint64{word(1, 1), word(2, 1), word(7, 7)}
	p := api.Pool{Free: free[:1], Old: olds[:3]}
	kept := func() bool {
		return slices.Equal(free, make([]api.Slot, 6)) && olds[0] == old(1, 1, 0) && olds[2] == old(3, 1, 0) && olds[3] == old(4, 1, 5) && slices.Equal(slots, []uint64{word(1, 1), word(2, 1), word(7, 7)})
	}
	a, _ := retire.ByEpoch(p, 2)
	b, _ := retire.BySlots(p, slots[:2])
	h := retire.Held(p, slots[:2])
	if len(a.Old) != 1 || len(b.Old) != 2 || len(h) != 2 || !kept() {
		t.Fatal(a, b, h)
	}
	a.Free[0].Tag, a.Old[0].Stamp, b.Free[0].Tag, b.Old[0].Stamp, h[0].Tag = 9, 9, 9, 9, 9
	if !kept() {
		t.Error("an answer shares its lists", p)
	}
}
