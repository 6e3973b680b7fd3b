package pack_test

import (
	"math"
	"reflect"
	"slices"
	"testing"

	"stopgate/api"
	"stopgate/pack"
)

// mixed is so many words that are unlike in all their bits, the same each time.
func mixed(n int) []uint64 {
	l := []uint64{0, 1, math.MaxUint64, 1 << 63, math.MaxUint32}
	for x := uint64(1); len(l) < n; {
		x = x*6364136223846793005 + 1442695040888963407
		l = append(l, x^x>>29)
	}
	return l
}

func TestResult_P2_1(t *testing.T) {
	for _, c := range []struct {
		r api.Result
		w uint64
	}{
		{api.Result{}, 0},
		{api.Result{Seq: 1, Code: api.EPARK}, 1<<44 | 14<<32},
		{api.Result{Value: 1}, 1},
		{api.Result{Value: api.MaxValue}, 1<<32 - 1},
		{api.Result{Code: 1}, 1 << 32},
		{api.Result{Code: 255}, 255 << 32},
		{api.Result{Case: 1}, 1 << 40},
		{api.Result{Case: 15}, 15 << 40},
		{api.Result{Seq: 1}, 1 << 44},
		{api.Result{Seq: api.MaxSeqs}, (1<<20 - 1) << 44},
		{api.Result{Seq: api.MaxSeqs, Case: 15, Code: 255, Value: api.MaxValue}, math.MaxUint64},
		{api.Result{Seq: 2, Case: 3, Code: 4, Value: 5}, 2<<44 | 3<<40 | 4<<32 | 5},
	} {
		if !pack.Good(c.r) {
			t.Errorf("Good(%v) is false", c.r)
		}
		if got := pack.Result(c.r); got != c.w {
			t.Errorf("Result(%v) = %x, not %x", c.r, got, c.w)
		}
		if got := pack.ReadResult(c.w); got != c.r {
			t.Errorf("ReadResult(%x) = %v, not %v", c.w, got, c.r)
		}
	}
}

func TestResultThatMayNotBe_P2_1(t *testing.T) {
	for _, r := range []api.Result{
		{Value: -1}, {Value: api.MaxValue + 1}, {Value: math.MaxInt}, {Value: math.MinInt},
		{Code: -1}, {Code: 256}, {Code: math.MaxInt}, {Code: math.MinInt},
		{Case: -1}, {Case: 16}, {Case: math.MaxInt}, {Case: math.MinInt},
		{Seq: -1}, {Seq: api.MaxSeqs + 1}, {Seq: math.MaxInt}, {Seq: math.MinInt},
		{Seq: 1, Case: 1, Code: 1, Value: -1},
	} {
		if pack.Good(r) || pack.Result(r) != 0 {
			t.Errorf("%v may be, with word %x", r, pack.Result(r))
		}
	}
}

func TestEachWordIsOneResult_P2_1(t *testing.T) {
	for _, w := range mixed(5000) {
		if r := pack.ReadResult(w); !pack.Good(r) || pack.Result(r) != w {
			t.Fatalf("ReadResult(%x) = %v, whose word is %x", w, r, pack.Result(r))
		}
	}
}

func TestRank_P2_2(t *testing.T) {
	for _, c := range []struct {
		r     api.Result
		final bool
		rank  int
	}{
		{api.Result{}, true, 1},
		{api.Result{Seq: 1, Code: api.EPARK}, false, 2},
		{api.Result{Seq: 1}, true, 3},
		{api.Result{Seq: 1, Code: api.ECANCEL, Case: 2, Value: 9}, true, 3},
		{api.Result{Seq: 2, Code: api.EPARK, Case: 2, Value: 9}, false, 4},
		{api.Result{Seq: api.MaxSeqs}, true, 2*api.MaxSeqs + 1},
		{api.Result{Seq: -3}, true, -5},
		{api.Result{Seq: -3, Code: api.EPARK}, false, -6},
		{api.Result{Code: api.EPARK - 1}, true, 1},
		{api.Result{Code: api.EPARK + 1}, true, 1},
		{api.Result{Code: api.EPARK + 256}, true, 1},
		{api.Result{Seq: math.MaxInt, Code: api.EPARK}, false, -2},
		{api.Result{Seq: math.MaxInt}, true, -1},
	} {
		if got := pack.Final(c.r); got != c.final {
			t.Errorf("Final(%v) = %v", c.r, got)
		}
		if got := pack.Rank(c.r); got != c.rank {
			t.Errorf("Rank(%v) = %d, not %d", c.r, got, c.rank)
		}
	}
}

func TestBehind_P2_2(t *testing.T) {
	word := func(seq, which int, code api.Errno, value int) uint64 {
		return pack.Result(api.Result{Seq: seq, Case: which, Code: code, Value: value})
	}
	// By rising ranks, and words of one rank in one row: none of these is behind another.
	rows := [][]uint64{
		{word(0, 0, api.EPARK, 0), word(0, 1, api.EPARK, 7)},
		{0, word(0, 15, api.EARG, 1)},
		{word(1, 0, api.EPARK, 0), word(1, 9, api.EPARK, api.MaxValue)},
		{word(1, 0, api.OK, 0), word(1, 15, 255, api.MaxValue)},
		{word(2, 0, api.EPARK, 0)},
		{word(api.MaxSeqs, 0, api.EPARK, 3)},
		{word(api.MaxSeqs, 0, api.OK, 0), math.MaxUint64},
	}
	for i, as := range rows {
		for j, bs := range rows {
			for _, a := range as {
				for _, b := range bs {
					if got := pack.Behind(a, b); got != (i < j) {
						t.Errorf("Behind(%x, %x) = %v", a, b, got)
					}
				}
			}
		}
	}
}

// calls is calls that may be, with the words that they are, but for the phase.
var calls = []struct {
	q api.Request
	l []uint64
}{
	{api.Request{Kind: api.RMake}, []uint64{1, 0, 0, 0}},
	{api.Request{Kind: api.RTake}, []uint64{9, 0, 0, 0}},
	{api.Request{Kind: api.RPut, Value: api.MaxValue}, []uint64{8 | (1<<32-1)<<32, 0, 0, 0}},
	{api.Request{Kind: api.RFree, Arg: 65535}, []uint64{2 | 65535<<16, 0, 0, 0}},
	{api.Request{Kind: api.RCancel, Arg: 5, Value: 6, Default: true}, []uint64{7 | 1<<12 | 5<<16 | 6<<32, 0, 0, 0}},
	{api.Request{Kind: api.RSelect, Cases: []api.Case{{Dir: api.Send, Handle: 8, Value: 5}}}, []uint64{3 | 1<<8, 1 | 8<<8 | 5<<32, 0, 0}},
	{api.Request{Kind: api.RSelect, Default: true, Cases: []api.Case{{Dir: api.Recv}, {Dir: api.Send, Handle: 65535, Value: api.MaxValue}}},
		[]uint64{3 | 2<<8 | 1<<12, 2, 1 | 65535<<8 | (1<<32-1)<<32, 0}},
	{api.Request{Kind: api.RPut, Arg: 1, Value: 2, Cases: []api.Case{{Dir: 1, Handle: 1}, {Dir: 2, Value: 1}, {Dir: 1, Handle: 2, Value: 3}}},
		[]uint64{8 | 3<<8 | 1<<16 | 2<<32, 1 | 1<<8, 2 | 1<<32, 1 | 2<<8 | 3<<32}},
}

func TestCall_P2_3(t *testing.T) {
	for _, c := range calls {
		if !pack.Fits(c.q) {
			t.Errorf("Fits(%v) is false", c.q)
		}
		for _, phase := range []int{0, 1, 77, api.MaxValue} {
			want := append(slices.Clone(c.l), uint64(phase))
			if got := pack.Call(c.q, phase); !slices.Equal(got, want) {
				t.Errorf("Call(%v, %d) = %x, not %x", c.q, phase, got, want)
			}
			q, p, ok := pack.ReadCall(want)
			if !ok || p != phase || !reflect.DeepEqual(q, c.q) {
				t.Errorf("ReadCall(%x) = %v, %d, %v", want, q, p, ok)
			}
		}
		for _, phase := range []int{-1, api.MaxValue + 1, math.MaxInt, math.MinInt} {
			if got := pack.Call(c.q, phase); len(got) != 0 {
				t.Errorf("Call(%v, %d) = %x", c.q, phase, got)
			}
		}
	}
}

func TestCallThatMayNotBe_P2_3(t *testing.T) {
	good := api.Case{Dir: api.Send, Handle: 8, Value: 5}
	bad := []api.Request{
		{}, {Kind: -1}, {Kind: 10}, {Kind: 257}, {Kind: math.MaxInt}, {Kind: math.MinInt},
		{Kind: 1, Arg: -1}, {Kind: 1, Arg: 65536}, {Kind: 1, Arg: math.MaxInt}, {Kind: 1, Arg: math.MinInt},
		{Kind: 8, Value: -1}, {Kind: 8, Value: api.MaxValue + 1}, {Kind: 8, Value: math.MaxInt}, {Kind: 8, Value: math.MinInt},
		{Kind: 3, Cases: []api.Case{good, good, good, good}},
		{Kind: 3, Cases: make([]api.Case, 1000)},
	}
	for _, c := range []api.Case{
		{}, {Dir: 3}, {Dir: -1}, {Dir: math.MaxInt}, {Dir: math.MinInt},
		{Dir: 1, Handle: -1}, {Dir: 1, Handle: 65536}, {Dir: 2, Handle: math.MaxInt}, {Dir: 2, Handle: math.MinInt},
		{Dir: 2, Value: -1}, {Dir: 1, Value: api.MaxValue + 1}, {Dir: 1, Value: math.MaxInt}, {Dir: 1, Value: math.MinInt},
	} {
		bad = append(bad,
			api.Request{Kind: 3, Cases: []api.Case{c}},
			api.Request{Kind: 3, Cases: []api.Case{good, c}},
			api.Request{Kind: 9, Cases: []api.Case{good, good, c}})
	}
	for _, q := range bad {
		if got := pack.Call(q, 0); pack.Fits(q) || len(got) != 0 {
			t.Errorf("%v may be, with words %x", q, got)
		}
	}
}

func TestReadCallOfNoCall_P2_3(t *testing.T) {
	no := func(l []uint64) {
		t.Helper()
		if q, p, ok := pack.ReadCall(l); ok || p != 0 || !reflect.DeepEqual(q, api.Request{}) {
			t.Errorf("ReadCall(%x) = %v, %d, %v", l, q, p, ok)
		}
	}
	no(nil)
	no([]uint64{})
	no([]uint64{0, 0, 0, 0, 0})
	no([]uint64{9})
	no([]uint64{9, 0, 0, 0})
	no([]uint64{9, 0, 0, 0, 0, 0})
	no([]uint64{10, 0, 0, 0, 0})
	no([]uint64{255, 0, 0, 0, 0})
	no([]uint64{9 | 1<<13, 0, 0, 0, 0})
	no([]uint64{9 | 1<<15, 0, 0, 0, 0})
	no([]uint64{9, 0, 0, 0, 1 << 32})
	no([]uint64{9, 0, 0, 0, math.MaxUint64})
	no([]uint64{9, 1, 0, 0, 0})
	no([]uint64{9, 0, 0, 1 << 8, 0})
	no([]uint64{9 | 1<<8, 0, 0, 0, 0})
	no([]uint64{9 | 1<<8, 3, 0, 0, 0})
	no([]uint64{9 | 1<<8, 1 | 1<<2, 0, 0, 0})
	no([]uint64{9 | 1<<8, 1 | 1<<24, 0, 0, 0})
	no([]uint64{9 | 1<<8, 1, 1, 0, 0})
	no([]uint64{9 | 4<<8, 1, 1, 1, 1})
	no([]uint64{9 | 15<<8, 1, 1, 1, 1})
	no([]uint64{math.MaxUint64, math.MaxUint64, math.MaxUint64, math.MaxUint64, math.MaxUint64})
}

// With each one of its bits another one, a call's words are another call's, just so, or none's.
func TestReadCallJustSo_P2_3(t *testing.T) {
	for _, c := range calls {
		l := append(slices.Clone(c.l), 6)
		for i := range l {
			for b := range 64 {
				x := slices.Clone(l)
				x[i] ^= 1 << b
				q, p, ok := pack.ReadCall(x)
				if ok && (!pack.Fits(q) || !slices.Equal(pack.Call(q, p), x)) || !ok && !reflect.DeepEqual(q, api.Request{}) {
					t.Fatalf("ReadCall(%x) = %v, %d, %v", x, q, p, ok)
				}
				if ok && p == 6 && reflect.DeepEqual(q, c.q) {
					t.Fatalf("ReadCall(%x) is that of %x", x, l)
				}
			}
		}
	}
}

func TestCallKeepsNothing_P2_3(t *testing.T) {
	cases := []api.Case{{Dir: 1, Handle: 8, Value: 5}, {Dir: 2, Handle: 9}}
	q := api.Request{Kind: api.RSelect, Cases: cases[:1]}
	l := pack.Call(q, 3)
	if cases[0] != (api.Case{Dir: 1, Handle: 8, Value: 5}) || cases[1] != (api.Case{Dir: 2, Handle: 9}) {
		t.Error("Call changed its cases", cases)
	}
	before := slices.Clone(l)
	got, _, _ := pack.ReadCall(l)
	again, _, _ := pack.ReadCall(l)
	got.Cases[0].Value = 77
	if !slices.Equal(l, before) || again.Cases[0].Value != 5 {
		t.Error("ReadCall shares its cases", l, again)
	}
}

func TestEpoch_P2_4(t *testing.T) {
	for _, c := range []struct {
		g int
		w uint64
	}{
		{0, 1}, {1, 3}, {7, 15}, {-1, math.MaxUint64}, {-2, math.MaxUint64 - 2},
		{math.MaxInt, math.MaxUint64}, {math.MinInt, 1}, {1 << 62, 1<<63 | 1},
	} {
		if got := pack.Epoch(c.g); got != c.w {
			t.Errorf("Epoch(%d) = %d, not %d", c.g, got, c.w)
		}
		if !pack.Lets(c.w, c.g) || !pack.Lets(0, c.g) || pack.Lets(c.w+2, c.g) || pack.Lets(c.w-2, c.g) || pack.Lets(c.w+1, c.g) && c.w+1 != 0 {
			t.Errorf("Lets of epoch %d", c.g)
		}
	}
	if pack.Lets(2, 1) || pack.Lets(1, 1) || pack.Lets(5, 1) || !pack.Lets(3, 1) {
		t.Error("Lets of epoch 1")
	}
}
