package ref_test

import (
	"math"
	"testing"

	"stopgate/api"
	"stopgate/ref"
)

// names is names at the edges of what may be, with their words; word 0: it may not be.
var names = []struct {
	r api.Ref
	w uint64
}{
	{api.Ref{Index: 3, Tag: 2}, 131076},
	{api.Ref{Index: 0, Tag: 1}, 65537},
	{api.Ref{Index: 1, Tag: 1}, 65538},
	{api.Ref{Index: 65534, Tag: 1}, 131071},
	{api.Ref{Index: 0, Tag: 2}, 131073},
	{api.Ref{Index: 0, Tag: api.MaxTags}, api.MaxTags<<16 + 1},
	{api.Ref{Index: 65534, Tag: api.MaxTags}, 1<<48 - 1},
	{api.Ref{}, 0},
	{api.Ref{Index: 0, Tag: 0}, 0},
	{api.Ref{Index: 0, Tag: -1}, 0},
	{api.Ref{Index: 0, Tag: api.MaxTags + 1}, 0},
	{api.Ref{Index: 0, Tag: math.MaxInt}, 0},
	{api.Ref{Index: 0, Tag: math.MinInt}, 0},
	{api.Ref{Index: -1, Tag: 1}, 0},
	{api.Ref{Index: 65535, Tag: 1}, 0},
	{api.Ref{Index: 65536, Tag: 1}, 0},
	{api.Ref{Index: math.MaxInt, Tag: 1}, 0},
	{api.Ref{Index: math.MinInt, Tag: 1}, 0},
}

func TestWord_P1_1(t *testing.T) {
	for _, n := range names {
		if got := ref.Good(n.r); got != (n.w != 0) {
			t.Errorf("Good(%v) = %v", n.r, got)
		}
		if got := ref.Word(n.r); got != n.w {
			t.Errorf("Word(%v) = %d, not %d", n.r, got, n.w)
		}
	}
}

func TestRead_P1_1(t *testing.T) {
	for _, n := range names {
		if n.w == 0 {
			continue
		}
		if got, ok := ref.Read(n.w); !ok || got != n.r {
			t.Errorf("Read(%d) = %v, %v, not %v", n.w, got, ok, n.r)
		}
	}
	for _, w := range []uint64{0, 1, 65535, 65536, 131072, 1 << 48, 1<<48 | 1, 1<<48 | 65537, 1 << 63, 1<<63 | 65537, math.MaxUint64} {
		if got, ok := ref.Read(w); ok || got != (api.Ref{}) {
			t.Errorf("Read(%d) = %v, %v: it is no name's word", w, got, ok)
		}
	}
}

// Each word that is read is the word of what was read, and no other name has it.
func TestReadIsInverse_P1_1(t *testing.T) {
	for w := uint64(0); w < 5<<16; w++ {
		r, ok := ref.Read(w)
		if ok != (w > 1<<16 && w%(1<<16) != 0) {
			t.Fatalf("Read(%d) = %v, %v", w, r, ok)
		}
		if ok && (!ref.Good(r) || ref.Word(r) != w) {
			t.Fatalf("Word(%v) = %d, not %d", r, ref.Word(r), w)
		}
	}
}

func TestNext_P1_2(t *testing.T) {
	for _, c := range []struct {
		s    api.Slot
		last int
		want api.Ref // zero: none
	}{
		{api.Slot{Index: 3, Tag: 2}, 3, api.Ref{Index: 3, Tag: 3}},
		{api.Slot{Index: 3, Tag: 3}, 3, api.Ref{}},
		{api.Slot{Index: 3, Tag: 4}, 3, api.Ref{}},
		{api.Slot{Index: 0, Tag: 0}, 1, api.Ref{Index: 0, Tag: 1}},
		{api.Slot{Index: 0, Tag: 0}, 0, api.Ref{}},
		{api.Slot{Index: 0, Tag: 0}, -1, api.Ref{}},
		{api.Slot{Index: 0, Tag: 0}, math.MinInt, api.Ref{}},
		{api.Slot{Index: 0, Tag: -1}, 3, api.Ref{}},
		{api.Slot{Index: 0, Tag: math.MinInt}, 3, api.Ref{}},
		{api.Slot{Index: 65534, Tag: 0}, 3, api.Ref{Index: 65534, Tag: 1}},
		{api.Slot{Index: 65535, Tag: 0}, 3, api.Ref{}},
		{api.Slot{Index: -1, Tag: 0}, 3, api.Ref{}},
		{api.Slot{Index: 7, Tag: api.MaxTags - 1}, api.MaxTags, api.Ref{Index: 7, Tag: api.MaxTags}},
		{api.Slot{Index: 7, Tag: api.MaxTags - 1}, math.MaxInt, api.Ref{Index: 7, Tag: api.MaxTags}},
		{api.Slot{Index: 7, Tag: api.MaxTags}, math.MaxInt, api.Ref{}},
		{api.Slot{Index: 7, Tag: math.MaxInt}, math.MaxInt, api.Ref{}},
		{api.Slot{Index: 7, Tag: math.MaxInt - 1}, math.MaxInt, api.Ref{}},
	} {
		got, ok := ref.Next(c.s, c.last)
		if got != c.want || ok != (c.want != api.Ref{}) {
			t.Errorf("Next(%v, %d) = %v, %v, not %v", c.s, c.last, got, ok, c.want)
		}
	}
}

func TestSlot_P1_2(t *testing.T) {
	for _, n := range names {
		if got := ref.Slot(n.r); got.Index != n.r.Index || got.Tag != n.r.Tag {
			t.Errorf("Slot(%v) = %v", n.r, got)
		}
	}
}

func TestLess_P1_2(t *testing.T) {
	// Rising: so each is less than all behind it, and than none else.
	rising := []api.Ref{
		{Index: math.MinInt, Tag: 9}, {Index: -1, Tag: 9}, {Index: 0, Tag: -1}, {Index: 0, Tag: 0}, {Index: 0, Tag: 7},
		{Index: 1, Tag: 2}, {Index: 1, Tag: 3}, {Index: 2, Tag: 1}, {Index: math.MaxInt, Tag: math.MinInt}, {Index: math.MaxInt, Tag: math.MaxInt},
	}
	for i, a := range rising {
		for j, b := range rising {
			if got := ref.Less(a, b); got != (i < j) {
				t.Errorf("Less(%v, %v) = %v", a, b, got)
			}
		}
	}
}

func TestHandle_P1_3(t *testing.T) {
	for place := -2; place < 12; place++ {
		for gen := -2; gen < 4100; gen++ {
			want := 0
			if 0 <= place && place <= 7 && 1 <= gen && gen <= 4095 {
				want = gen*8 + place
			}
			if got := ref.Handle(place, gen); got != want {
				t.Fatalf("Handle(%d, %d) = %d, not %d", place, gen, got, want)
			}
		}
	}
	for _, c := range [][2]int{{math.MaxInt, 1}, {math.MinInt, 1}, {0, math.MaxInt}, {0, math.MinInt}, {1, 1 << 61}} {
		if got := ref.Handle(c[0], c[1]); got != 0 {
			t.Errorf("Handle(%d, %d) = %d", c[0], c[1], got)
		}
	}
}

func TestPlace_P1_3(t *testing.T) {
	if p, g, ok := ref.Place(9); p != 1 || g != 1 || !ok {
		t.Error(p, g, ok)
	}
	for h := -100; h < 40000; h++ {
		p, g, ok := ref.Place(h)
		if ok != (8 <= h && h <= 4095*8+7) {
			t.Fatalf("Place(%d) says %v", h, ok)
		}
		if ok && (p != h%8 || g != h/8 || ref.Handle(p, g) != h) || !ok && (p != 0 || g != 0) {
			t.Fatalf("Place(%d) = %d, %d, %v", h, p, g, ok)
		}
	}
	for _, h := range []int{math.MaxInt, math.MinInt, math.MinInt + 8, -9, 1 << 32, 1<<32 + 9} {
		if p, g, ok := ref.Place(h); p != 0 || g != 0 || ok {
			t.Errorf("Place(%d) = %d, %d, %v", h, p, g, ok)
		}
	}
}
