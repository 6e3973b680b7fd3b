package fault_test

import (
	"errors"
	"fmt"
	"math"
	"strings"
	"testing"

	"stopgate/api"
	"stopgate/fault"
)

// wild is an error whose own methods panic.
type wild struct{}

func (wild) Error() string   { panic("no text") }
func (wild) Unwrap() error   { panic("wraps nothing") }
func (wild) As(any) bool     { panic("is nothing") }
func (wild) Is(e error) bool { panic("is nothing") }

// knot is an error that wraps what wraps it.
type knot struct{ err error }

func (k *knot) Error() string { return "knot" }
func (k *knot) Unwrap() error { return k.err }

// row is an error that can't be held against another one by ==.
type row []int

func (row) Error() string { return "row" }

func nested() error { return fault.In("event", 2, fault.At("line", 5, api.ELINE)) }

func TestError_P4_1(t *testing.T) {
	for _, c := range []struct {
		err  error
		want string
	}{
		{nested(), "event 2: line 5: error 17"},
		{fault.At("line", 5, api.ELINE), "line 5: error 17"},
		{fault.At("", 0, api.EARG), " 0: error 1"},
		{fault.At("a: b", -7, api.Errno(-3)), "a: b -7: error -3"},
		{fault.At("x", math.MinInt, 400), "x -9223372036854775808: error 400"},
		{fault.In("x", math.MaxInt, errors.New("y")), "x 9223372036854775807: y"},
		{fault.In("x", 1, errors.New("")), "x 1: "},
		{fault.In("x", 1, api.OK), "x 1: error 0"},
		{fault.In("x", 1, fmt.Errorf("in %w", nested())), "x 1: in event 2: line 5: error 17"},
		{fault.In("x", 1, row{1}), "x 1: row"},
		{fault.In("a", 1, fault.In("b", 2, fault.In("c", 3, errors.New("d")))), "a 1: b 2: c 3: d"},
	} {
		if got := c.err.Error(); got != c.want {
			t.Errorf("%q, not %q", got, c.want)
		}
	}
}

func TestNothingWrapped_P4_1(t *testing.T) {
	if err := fault.At("x", 1, api.OK); err != nil {
		t.Error(err)
	}
	if err := fault.In("x", 1, nil); err != nil {
		t.Error(err)
	}
	for _, f := range []*fault.Fault{nil, {}} {
		if f.Error() != "" || f.Unwrap() != nil {
			t.Error("a fault that was not made tells something")
		}
		if got := fault.In("x", 1, f).Error(); got != "x 1: " {
			t.Error(got)
		}
	}
}

func TestUnwrap_P4_1(t *testing.T) {
	inner := errors.New("y")
	err := fault.In("x", 1, inner)
	f, ok := err.(*fault.Fault)
	if !ok || f.Unwrap() != inner || errors.Unwrap(err) != inner {
		t.Error("In wraps something else")
	}
	if e := errors.Unwrap(fault.At("x", 1, api.EBUSY)); e != api.EBUSY {
		t.Error(e)
	}
	if outer := fault.In("z", 2, err); errors.Unwrap(outer) != err {
		t.Error("In wraps something else than a fault")
	}
}

func TestCode_P4_2(t *testing.T) {
	for _, c := range []struct {
		err  error
		want api.Errno
	}{
		{nil, api.OK},
		{nested(), api.ELINE},
		{api.ETAG, api.ETAG},
		{api.Errno(-5), -5},
		{fault.At("x", 1, 300), 300},
		{errors.New("y"), api.EFORM},
		{fault.In("x", 1, errors.New("y")), api.EFORM},
		{fmt.Errorf("in %w", nested()), api.ELINE},
		{errors.Join(errors.New("y"), api.EARG, api.ETAG), api.EARG},
		{fault.In("x", 1, errors.Join(fault.At("y", 1, api.EBUSY), api.ETAG)), api.EBUSY},
		{&fault.Fault{}, api.EFORM},
		{(*fault.Fault)(nil), api.EFORM},
		{fault.In("x", 1, row{1}), api.EFORM},
		{wild{}, api.EFORM},
		{fault.In("x", 1, wild{}), api.EFORM},
	} {
		if got := fault.Code(c.err); got != c.want {
			t.Errorf("the code is %d, not %d", int(got), int(c.want))
		}
	}
}

func TestIs_P4_2(t *testing.T) {
	both := errors.Join(fault.At("y", 1, api.EBUSY), api.ETAG)
	for _, c := range []struct {
		err  error
		e    api.Errno
		want bool
	}{
		{nil, api.OK, false},
		{nil, api.EARG, false},
		{nested(), api.ELINE, true},
		{nested(), api.EARG, false},
		{nested(), api.OK, false},
		{api.ETAG, api.ETAG, true},
		{api.OK, api.OK, true},
		{fmt.Errorf("in %w", nested()), api.ELINE, true},
		{both, api.EBUSY, true},
		{both, api.ETAG, true},
		{both, api.EARG, false},
		{errors.New("error 1"), api.EARG, false},
		{errors.New("y"), api.EFORM, false},
		{(*fault.Fault)(nil), api.EFORM, false},
		{fault.In("x", 1, row{1}), api.EARG, false},
		{fault.In("x", 1, wild{}), api.EARG, false},
	} {
		if got := fault.Is(c.err, c.e); got != c.want {
			t.Errorf("Is %d: %v", int(c.e), got)
		}
	}
}

func TestFaults_P4_3(t *testing.T) {
	type place struct {
		what string
		n    int
		ok   bool
	}
	twice := fault.In("line", 1, fmt.Errorf("in %w", fault.In("word", -2, fault.At("line", 3, api.ELINE))))
	for _, c := range []struct {
		err    error
		path   string
		deep   int
		places []place
	}{
		{nil, "", 0, []place{{"line", 0, false}, {"", 0, false}}},
		{api.EARG, "", 0, []place{{"line", 0, false}, {"", 0, false}}},
		{errors.New("y"), "", 0, []place{{"y", 0, false}}},
		{nested(), "event 2/line 5", 2, []place{{"line", 5, true}, {"event", 2, true}, {"even", 0, false}, {"", 0, false}}},
		{twice, "line 1/word -2/line 3", 3, []place{{"line", 3, true}, {"word", -2, true}}},
		{fmt.Errorf("in %w", twice), "line 1/word -2/line 3", 3, []place{{"line", 3, true}}},
		{fault.At("", 0, api.EARG), " 0", 1, []place{{"", 0, true}}},
		{fault.At("a/b", 1, api.EARG), "a/b 1", 1, []place{{"a/b", 1, true}, {"a", 0, false}}},
		// Of several errors joined the first fault counts, and what that one wraps: not the ones beside it.
		{errors.Join(errors.New("y"), nested(), fault.At("last", 9, api.EARG)), "event 2/line 5", 2, []place{{"last", 0, false}}},
		{(*fault.Fault)(nil), "", 0, []place{{"", 0, false}}},
		{fault.In("x", 1, (*fault.Fault)(nil)), "x 1", 1, []place{{"x", 1, true}, {"", 0, false}}},
		{wild{}, "", 0, []place{{"", 0, false}}},
		{fault.In("x", 1, wild{}), "x 1", 1, []place{{"x", 1, true}}},
	} {
		if got := fault.Path(c.err); got != c.path {
			t.Errorf("path %q, not %q", got, c.path)
		}
		if got := fault.Deep(c.err); got != c.deep {
			t.Errorf("path %q: depth %d, not %d", c.path, got, c.deep)
		}
		for _, p := range c.places {
			if n, ok := fault.Place(c.err, p.what); n != p.n || ok != p.ok {
				t.Errorf("path %q: place of %q %d, %v", c.path, p.what, n, ok)
			}
		}
	}
}

// The 64th fault is still looked at, the 65th is not: by Place, Path and Deep alike.
func TestSixtyFour_P4_3(t *testing.T) {
	err := fault.At("f", 1, api.ETAG)
	for n := 2; n <= 70; n++ {
		err = fault.In("f", n, err)
		deep := min(n, 64)
		if got := fault.Deep(err); got != deep {
			t.Fatalf("%d faults: depth %d", n, got)
		}
		if p, ok := fault.Place(err, "f"); !ok || p != n-deep+1 {
			t.Fatalf("%d faults: the last place is %d", n, p)
		}
		if got := strings.Split(fault.Path(err), "/"); len(got) != deep || got[0] != fmt.Sprint("f ", n) {
			t.Fatalf("%d faults: path %v", n, got)
		}
	}
	if fault.Code(err) != api.ETAG || !fault.Is(err, api.ETAG) || strings.Count(err.Error(), "f ") != 70 {
		t.Error("the number behind the 64th fault is lost")
	}
}

func TestKnot_P4_3(t *testing.T) {
	k := &knot{}
	k.err = fault.In("a", 1, k)
	if fault.Deep(k) != 64 || strings.Count(fault.Path(k), "a 1") != 64 {
		t.Error(fault.Path(k))
	}
	if p, ok := fault.Place(k, "a"); !ok || p != 1 {
		t.Error(p, ok)
	}
	if _, ok := fault.Place(k, "b"); ok {
		t.Error("a place of no name")
	}
	if got := k.err.Error(); got != "a 1: knot" {
		t.Error(got)
	}
}

func TestTextOfWildOnes_P4_1(t *testing.T) {
	if got := fault.In("x", 1, wild{}).Error(); got != "x 1: " {
		t.Errorf("%q", got)
	}
	if got := fault.In("y", 2, fault.In("x", 1, (*knot)(nil))).Error(); got != "y 2: x 1: knot" {
		t.Errorf("%q", got)
	}
}

// As many parts nested as the document speaks of: each call ends, and soon.
func TestDeepNest_P4_1_P4_2(t *testing.T) {
	err := fault.At("f", 0, api.EBUSY)
	for n := 1; n < 1<<16; n++ {
		err = fault.In("f", n, err)
	}
	if s := err.Error(); strings.Count(s, "f ") != 1<<16 || !strings.HasPrefix(s, "f 65535: f 65534: ") || !strings.HasSuffix(s, "f 1: f 0: error 13") {
		t.Error(len(s))
	}
	if fault.Code(err) != api.EBUSY || !fault.Is(err, api.EBUSY) || fault.Is(err, api.ETAG) || fault.Deep(err) != 64 {
		t.Error(fault.Code(err))
	}
}
