package epoch_test

import (
	"math"
	"slices"
	"testing"

	"stopgate/epoch"
	"stopgate/pack"
)

// places is numbers of threads, those that there are not among them.
var places = []int{math.MinInt, -1, 0, 1, 2, 3, 4, 5, math.MaxInt}

func TestAll_P7_1(t *testing.T) {
	in := func(g int) uint64 { return uint64(2*g + 1) }
	for _, c := range []struct {
		l    []uint64
		g    int
		want []int // the places me of which it is true, of places
	}{
		{nil, 4, places},
		{[]uint64{}, -1, places},
		{[]uint64{0, 0, 0}, 4, places},
		{[]uint64{0, in(4), in(4)}, 4, places},
		{[]uint64{0, in(4), in(4)}, 5, nil},
		{[]uint64{0, in(4), 0}, 5, []int{1}},
		{[]uint64{in(3), in(4), in(4)}, 4, []int{0}},
		{[]uint64{in(4), 0, in(5)}, 4, []int{2}},
		{[]uint64{in(4), 1, in(5)}, 4, nil},
		{[]uint64{8, 0, 0}, 4, []int{0}}, // no epoch's word
		{[]uint64{1, 0, 0}, 0, places},
		{[]uint64{math.MaxUint64, 0, 0}, -1, places},
		{[]uint64{math.MaxUint64, 0, 0}, math.MaxInt, places},
		{[]uint64{1, 0, 0}, math.MinInt, places},
	} {
		for _, me := range places {
			if got := epoch.All(c.l, me, c.g); got != slices.Contains(c.want, me) {
				t.Errorf("All(%v, %d, %d) = %v", c.l, me, c.g, got)
			}
		}
	}
}

func TestIn_P7_1(t *testing.T) {
	for _, c := range []struct {
		l    []uint64
		want int
	}{
		{nil, 0},
		{[]uint64{0, 0}, 0},
		{[]uint64{0, 9, 0}, 1},
		{[]uint64{1, 2, 0, math.MaxUint64, 1 << 63}, 4},
	} {
		if got := epoch.In(c.l); got != c.want {
			t.Errorf("In(%v) = %d, not %d", c.l, got, c.want)
		}
	}
}

func TestLeast_P7_2(t *testing.T) {
	for _, c := range []struct {
		l    []uint64
		want int
		ok   bool
	}{
		{nil, 0, false},
		{[]uint64{0}, 0, false},
		{[]uint64{0, 0, 0}, 0, false},
		{[]uint64{0, 9, 0}, 4, true},
		{[]uint64{9, 0, 7, 11}, 3, true},
		{[]uint64{7, 9}, 3, true},
		{[]uint64{1, 9}, 0, true},
		{[]uint64{9, 1}, 0, true},
		{[]uint64{8, 6}, 3, true},
		{[]uint64{math.MaxUint64}, math.MaxInt, true},
		{[]uint64{math.MaxUint64, 1 << 63}, 1 << 62, true},
		{[]uint64{1 << 63, 5}, 2, true},
	} {
		if got, ok := epoch.Least(c.l); got != c.want || ok != c.ok {
			t.Errorf("Least(%v) = %d, %v", c.l, got, ok)
		}
	}
}

func TestLate_P7_2(t *testing.T) {
	for _, c := range []struct {
		l    []uint64
		g    int
		want []int
	}{
		{nil, 4, nil},
		{[]uint64{0, 9, 0}, 4, nil},
		{[]uint64{0, 9, 0}, 5, []int{1}},
		{[]uint64{7, 9, 0, 11, 8}, 4, []int{0, 3, 4}},
		{[]uint64{7, 9, 0, 11, 8}, -1, []int{0, 1, 3, 4}},
		{[]uint64{math.MaxUint64, 1}, -1, []int{1}},
		{[]uint64{math.MaxUint64, 1}, 0, []int{0}},
	} {
		if got := epoch.Late(c.l, c.g); !slices.Equal(got, c.want) {
			t.Errorf("Late(%v, %d) = %v, not %v", c.l, c.g, got, c.want)
		}
	}
}

func TestEnterLeave_P7_3(t *testing.T) {
	l := []uint64{3, 0, 9}
	for _, p := range places {
		for g, w := range map[int]uint64{0: 1, 4: 9, 1 << 62: 1<<63 | 1, -1: math.MaxUint64, math.MaxInt: math.MaxUint64, math.MinInt: 1} {
			want := slices.Clone(l)
			if 0 <= p && p < 3 {
				want[p] = w
			}
			if got := epoch.Enter(l, p, g); !slices.Equal(got, want) {
				t.Errorf("Enter(%v, %d, %d) = %v", l, p, g, got)
			}
		}
		want := slices.Clone(l)
		if 0 <= p && p < 3 {
			want[p] = 0
		}
		if got := epoch.Leave(l, p); !slices.Equal(got, want) {
			t.Errorf("Leave(%v, %d) = %v", l, p, got)
		}
		if len(epoch.Enter(nil, p, 4)) != 0 || len(epoch.Leave(nil, p)) != 0 {
			t.Error("a thread of none enters, or leaves", p)
		}
	}
}

func TestNext_P7_3(t *testing.T) {
	const end = 1 << 62
	for _, c := range []struct {
		l     []uint64
		me, g int
		want  int
	}{
		{nil, 0, 0, 1},
		{nil, 0, 7, 8},
		{[]uint64{0, 9, 0}, 0, 4, 5},
		{[]uint64{0, 9, 0}, 0, 5, 5},
		{[]uint64{0, 9, 0}, 1, 5, 6},
		{[]uint64{0, 9, 0}, -1, 5, 5},
		{[]uint64{0, 9, 0}, 3, 5, 5},
		{[]uint64{0, 9, 0}, math.MaxInt, 4, 5},
		{nil, 0, -1, -1},
		{[]uint64{math.MaxUint64}, 1, -1, -1},
		{nil, 0, math.MinInt, math.MinInt},
		{[]uint64{5}, 0, -7, -7},
		{nil, 0, end - 1, end},
		{nil, 0, end, end},
		{[]uint64{pack.Epoch(end)}, 1, end, end},
		{[]uint64{pack.Epoch(end - 1)}, 1, end - 1, end},
		{[]uint64{pack.Epoch(end - 2)}, 1, end - 1, end - 1},
		{nil, 0, end + 1, end + 2}, // the end alone has none behind it
		{[]uint64{1}, 1, math.MaxInt, math.MaxInt},
	} {
		if got := epoch.Next(c.l, c.me, c.g); got != c.want {
			t.Errorf("Next(%v, %d, %d) = %d, not %d", c.l, c.me, c.g, got, c.want)
		}
	}
}

// Threads that come into the epoch that is, and let it end when all do, are one behind at most.
func TestWhatFollows_P7_1_P7_2_P7_3(t *testing.T) {
	l, g, ended := make([]uint64, 4), 0, 0
	for x, n := uint64(3), 0; n < 20000; n++ {
		x = x*6364136223846793005 + 1442695040888963407
		who := int(x >> 40 % 4)
		switch x >> 50 % 3 {
		case 0:
			if l[who] == 0 {
				l = epoch.Enter(l, who, g)
			}
		case 1:
			l = epoch.Leave(l, who)
		case 2:
			now := epoch.Next(l, -1, g) // no thread is left out
			if may := epoch.All(l, -1, g); may != (now == g+1) || !may && now != g {
				t.Fatal(l, who, g, now)
			}
			ended += now - g
			g = now
		}
		if least, ok := epoch.Least(l); ok != (epoch.In(l) > 0) || ok && (least < g-1 || least > g) {
			t.Fatal(l, g, least)
		}
	}
	if ended < 100 {
		t.Error("too few epochs ended:", ended)
	}
}

func TestNewMemory_P7_2_P7_3(t *testing.T) {
	room := []uint64{3, 0, 9, 77}
	l := room[:3]
	late := epoch.Late(l, 0)
	for _, got := range [][]uint64{epoch.Enter(l, 1, 4), epoch.Enter(l, 3, 4), epoch.Leave(l, 0), epoch.Leave(l, -1)} {
		for i := range got {
			got[i] = 55
		}
		_ = append(got, 66)
	}
	late[0] = 8
	if !slices.Equal(room, []uint64{3, 0, 9, 77}) || !slices.Equal(epoch.Late(l, 0), []int{0, 2}) {
		t.Error(room)
	}
}
