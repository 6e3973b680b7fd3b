package waits_test

import (
	"math"
	"reflect"
	"slices"
	"testing"

	"stopgate/api"
	"stopgate/waits"
)

func send(handle int) api.Case { return api.Case{Dir: api.Send, Handle: handle, Value: 3} }

func recv(handle int) api.Case { return api.Case{Dir: api.Recv, Handle: handle} }

func wait(ticket int, cases ...api.Case) api.Wait {
	return api.Wait{On: true, Ticket: ticket, Seq: 1, Cases: cases}
}

// off is what is left in a place whose call does not wait: no call of the package makes it.
func off(ticket int, cases ...api.Case) api.Wait {
	return api.Wait{Ticket: ticket, Seq: 1, Cases: cases}
}

// equal holds all fields of two rows of waits against one another, by itself: waits.Same is held to it.
func equal(a, b []api.Wait) bool {
	if len(a) != len(b) {
		return false
	}
	for i, v := range a {
		w := b[i]
		if v.On != w.On || v.Ticket != w.Ticket || v.Seq != w.Seq || len(v.Cases) != len(w.Cases) {
			return false
		}
		for j, c := range v.Cases {
			if c != w.Cases[j] {
				return false
			}
		}
	}
	return true
}

// row is three threads, of which the middle one waits.
func row() []api.Wait {
	return []api.Wait{{}, {On: true, Ticket: 4, Seq: 2, Cases: []api.Case{recv(8), send(9)}}, off(7, recv(8))}
}

func TestPut_P10_1(t *testing.T) {
	cases := []api.Case{send(3), recv(-4), {}}
	for _, c := range []struct {
		what string
		t    int
		w    api.Wait
		want api.Wait
		ok   bool
	}{
		{"first", 0, api.Wait{Ticket: 5, Seq: 6, Cases: cases}, api.Wait{On: true, Ticket: 5, Seq: 6, Cases: cases}, true},
		{"one that says On", 0, api.Wait{On: true, Ticket: 5, Seq: 6}, api.Wait{On: true, Ticket: 5, Seq: 6}, true},
		{"zero", 0, api.Wait{}, api.Wait{On: true}, true},
		{"last, over what was left", 2, api.Wait{Ticket: math.MinInt, Seq: math.MaxInt, Cases: cases[:1]}, api.Wait{On: true, Ticket: math.MinInt, Seq: math.MaxInt, Cases: cases[:1]}, true},
		{"one that waits", 1, api.Wait{Ticket: 5}, api.Wait{}, false},
		{"one that waits, the same", 1, row()[1], api.Wait{}, false},
		{"behind the last", 3, api.Wait{Ticket: 5}, api.Wait{}, false},
		{"ahead of the first", -1, api.Wait{Ticket: 5}, api.Wait{}, false},
		{"far behind", math.MaxInt, api.Wait{Ticket: 5}, api.Wait{}, false},
		{"far ahead", math.MinInt, api.Wait{Ticket: 5}, api.Wait{}, false},
	} {
		want := row()
		if c.ok {
			want[c.t] = c.want
		}
		if got, ok := waits.Put(row(), c.t, c.w); ok != c.ok || !equal(got, want) {
			t.Errorf("%s: Put(%d, %v) = %v, %v", c.what, c.t, c.w, got, ok)
		}
	}
	if got, ok := waits.Put(nil, 0, wait(1)); ok || len(got) != 0 {
		t.Error(got, ok)
	}
}

func TestCut_P10_1(t *testing.T) {
	for thread, waiting := range map[int]bool{0: false, 1: true, 2: false, 3: false, -1: false, math.MaxInt: false, math.MinInt: false} {
		want := row()
		if waiting {
			want[thread] = api.Wait{}
		}
		if got, ok := waits.Cut(row(), thread); ok != waiting || !equal(got, want) {
			t.Errorf("Cut(%d) = %v, %v", thread, got, ok)
		}
	}
	if got, ok := waits.Cut(nil, 0); ok || len(got) != 0 {
		t.Error(got, ok)
	}
}

func TestPutAndCut_P10_1(t *testing.T) {
	l := make([]api.Wait, 3)
	for n := range 3 {
		var ok bool
		if l, ok = waits.Put(l, 1, wait(n, recv(8))); !ok {
			t.Fatal(n)
		}
		if _, ok = waits.Put(l, 1, wait(n, recv(8))); ok {
			t.Fatal(n)
		}
		if l, ok = waits.Cut(l, 1); !ok || !equal(l, make([]api.Wait, 3)) {
			t.Fatal(n, l)
		}
		if _, ok = waits.Cut(l, 1); ok {
			t.Fatal(n)
		}
	}
}

func TestCopy_P10_1(t *testing.T) {
	for _, l := range [][]api.Wait{nil, {}, {{}}, row(), {wait(1), off(2, send(3)), wait(-1, recv(1), recv(2), recv(3), recv(4))}} {
		if got := waits.Copy(l); !equal(got, l) {
			t.Errorf("Copy of %v: %v", l, got)
		}
	}
}

func TestExample_P10_2(t *testing.T) {
	l, _ := waits.Put(make([]api.Wait, 3), 2, api.Wait{Ticket: 1, Cases: []api.Case{recv(8)}})
	l, _ = waits.Put(l, 0, api.Wait{Ticket: 2, Cases: []api.Case{recv(8)}})
	if thread, which, ok := waits.First(l, api.Recv, 8); thread != 2 || which != 0 || !ok {
		t.Error(thread, which, ok)
	}
	if got := waits.On(l, 8); !slices.Equal(got, []int{2, 0}) {
		t.Error(got)
	}
}

func TestFirst_P10_2(t *testing.T) {
	for _, c := range []struct {
		what          string
		l             []api.Wait
		dir, handle   int
		thread, which int
		ok            bool
	}{
		{"nobody", nil, api.Recv, 8, 0, 0, false},
		{"nobody waits", make([]api.Wait, 4), 0, 0, 0, 0, false},
		{"what is left does not wait", []api.Wait{off(1, recv(8)), {}}, api.Recv, 8, 0, 0, false},
		{"what is left is not ahead", []api.Wait{off(1, recv(8)), wait(2, recv(8))}, api.Recv, 8, 1, 0, true},
		{"no cases", []api.Wait{wait(1), wait(2)}, api.Recv, 8, 0, 0, false},
		{"another direction", []api.Wait{wait(1, send(8))}, api.Recv, 8, 0, 0, false},
		{"another channel", []api.Wait{wait(1, recv(9))}, api.Recv, 8, 0, 0, false},
		{"direction and channel in two cases", []api.Wait{wait(1, recv(9), send(8))}, api.Recv, 8, 0, 0, false},
		{"to send", []api.Wait{wait(1, recv(8)), wait(2, send(8))}, api.Send, 8, 1, 0, true},
		{"the least ticket is the first", []api.Wait{wait(1, recv(8)), wait(2, recv(8)), wait(3, recv(8))}, api.Recv, 8, 0, 0, true},
		{"the least ticket is the middle", []api.Wait{wait(5, recv(8)), wait(2, recv(8)), wait(3, recv(8))}, api.Recv, 8, 1, 0, true},
		{"the least ticket is the last", []api.Wait{wait(5, recv(8)), wait(4, recv(8)), wait(3, recv(8))}, api.Recv, 8, 2, 0, true},
		{"a lesser ticket for another", []api.Wait{wait(5, recv(8)), wait(1, recv(9)), wait(2, send(8))}, api.Recv, 8, 0, 0, true},
		{"one ticket", []api.Wait{wait(9, recv(8)), wait(3, recv(8)), wait(3, recv(8))}, api.Recv, 8, 1, 0, true},
		{"the second case", []api.Wait{{}, wait(3, send(8), recv(8), recv(7))}, api.Recv, 8, 1, 1, true},
		{"the first of two cases", []api.Wait{{}, wait(3, send(8), recv(7), recv(8), recv(8))}, api.Recv, 8, 1, 2, true},
		{"places of cases are no tickets", []api.Wait{wait(4, recv(8)), wait(3, send(1), send(2), recv(8))}, api.Recv, 8, 1, 2, true},
		{"tickets at both ends", []api.Wait{wait(math.MaxInt, recv(8)), wait(0, recv(8)), wait(math.MinInt, recv(8)), wait(-1, recv(8))}, api.Recv, 8, 2, 0, true},
		{"the greatest ticket alone", []api.Wait{{}, wait(math.MaxInt, recv(8))}, api.Recv, 8, 1, 0, true},
		{"a direction that is none", []api.Wait{wait(1, recv(8)), wait(2, api.Case{Dir: -7, Handle: math.MinInt})}, -7, math.MinInt, 1, 0, true},
		{"zero", []api.Wait{off(0, api.Case{}), wait(2, recv(0), api.Case{})}, 0, 0, 1, 1, true},
	} {
		if thread, which, ok := waits.First(c.l, c.dir, c.handle); thread != c.thread || which != c.which || ok != c.ok {
			t.Errorf("%s: First = %d, %d, %v", c.what, thread, which, ok)
		}
	}
}

func TestOn_P10_2(t *testing.T) {
	for _, c := range []struct {
		what   string
		l      []api.Wait
		handle int
		want   []int
	}{
		{"nobody", nil, 8, nil},
		{"nobody waits", make([]api.Wait, 4), 0, nil},
		{"what is left does not wait", []api.Wait{off(1, recv(8)), wait(2, recv(8))}, 8, []int{1}},
		{"no cases", []api.Wait{wait(1), wait(2)}, 0, nil},
		{"another channel", []api.Wait{wait(1, recv(9)), wait(2, send(7))}, 8, nil},
		{"both directions", []api.Wait{wait(3, recv(8)), wait(2, send(8)), wait(1, recv(8))}, 8, []int{2, 1, 0}},
		{"as they stand", []api.Wait{wait(3, recv(8)), wait(2, send(8)), wait(3, send(8)), wait(2, recv(8)), wait(3, recv(8))}, 8, []int{1, 3, 0, 2, 4}},
		{"each thread once", []api.Wait{wait(3, recv(8), send(8), recv(8)), wait(2, send(1), recv(8), send(8))}, 8, []int{1, 0}},
		{"tickets at both ends", []api.Wait{wait(math.MaxInt, recv(8)), wait(0, recv(8)), wait(math.MinInt, recv(8)), wait(-1, recv(8))}, 8, []int{2, 3, 1, 0}},
		{"a handle that is none", []api.Wait{wait(1, recv(8)), wait(2, recv(-8))}, -8, []int{1}},
		{"a case that is none", []api.Wait{wait(1, api.Case{Dir: 5, Handle: 8})}, 8, []int{0}},
	} {
		if got := waits.On(c.l, c.handle); !slices.Equal(got, c.want) {
			t.Errorf("%s: On = %v", c.what, got)
		}
	}
}

// Of many that wait, First and On are what a plain search says.
func TestTurns_P10_2(t *testing.T) {
	mixed := uint64(9)
	pick := func(n int) int {
		mixed = mixed*6364136223846793005 + 1442695040888963407
		return int(mixed >> 33 % uint64(n))
	}
	for range 300 {
		l := make([]api.Wait, pick(70))
		for i := range l {
			l[i] = api.Wait{On: pick(3) > 0, Ticket: pick(20) - 5}
			for range pick(4) {
				l[i].Cases = append(l[i].Cases, api.Case{Dir: 1 + pick(2), Handle: pick(4), Value: pick(3)})
			}
		}
		var all []int
		best, at := -1, 0
		for ticket := -5; ticket < 15; ticket++ {
			for i, w := range l {
				if !w.On || w.Ticket != ticket {
					continue
				}
				if slices.ContainsFunc(w.Cases, func(c api.Case) bool { return c.Handle == 2 }) {
					all = append(all, i)
				}
				for k, c := range w.Cases {
					if best < 0 && c.Dir == api.Send && c.Handle == 2 {
						best, at = i, k
					}
				}
			}
		}
		if got := waits.On(l, 2); !slices.Equal(got, all) {
			t.Fatalf("On of %v: %v", l, got)
		}
		thread, which, ok := waits.First(l, api.Send, 2)
		if ok != (best >= 0) || thread != max(best, 0) || which != at {
			t.Fatalf("First of %v: %d, %d, %v", l, thread, which, ok)
		}
	}
}

func TestCount_P10_2(t *testing.T) {
	for _, c := range []struct {
		l    []api.Wait
		want int
	}{
		{nil, 0},
		{[]api.Wait{}, 0},
		{make([]api.Wait, 5), 0},
		{row(), 1},
		{[]api.Wait{off(1, recv(8)), off(2)}, 0},
		{[]api.Wait{wait(1, recv(8), send(8)), {}, wait(0), wait(-1)}, 3},
	} {
		if got := waits.Count(c.l); got != c.want {
			t.Errorf("Count of %v: %d", c.l, got)
		}
	}
}

func TestSame_P10_2(t *testing.T) {
	if !waits.Same(row(), row()) || !waits.Same(nil, nil) || !waits.Same(nil, []api.Wait{}) {
		t.Error("not the same")
	}
	if !waits.Same([]api.Wait{{Cases: []api.Case{}}}, []api.Wait{{}}) {
		t.Error("empty cases are nil ones")
	}
	for what, change := range map[string]func(l []api.Wait) []api.Wait{
		"on":               func(l []api.Wait) []api.Wait { l[1].On = false; return l },
		"on elsewhere":     func(l []api.Wait) []api.Wait { l[2].On = true; return l },
		"ticket":           func(l []api.Wait) []api.Wait { l[1].Ticket++; return l },
		"seq":              func(l []api.Wait) []api.Wait { l[1].Seq++; return l },
		"dir":              func(l []api.Wait) []api.Wait { l[1].Cases[0].Dir++; return l },
		"handle":           func(l []api.Wait) []api.Wait { l[1].Cases[0].Handle++; return l },
		"value":            func(l []api.Wait) []api.Wait { l[1].Cases[1].Value++; return l },
		"one case less":    func(l []api.Wait) []api.Wait { l[1].Cases = l[1].Cases[:1]; return l },
		"one case more":    func(l []api.Wait) []api.Wait { l[1].Cases = append(l[1].Cases, api.Case{}); return l },
		"cases turned":     func(l []api.Wait) []api.Wait { slices.Reverse(l[1].Cases); return l },
		"left ticket":      func(l []api.Wait) []api.Wait { l[2].Ticket++; return l },
		"left seq":         func(l []api.Wait) []api.Wait { l[2].Seq++; return l },
		"left case":        func(l []api.Wait) []api.Wait { l[2].Cases[0].Handle++; return l },
		"one thread less":  func(l []api.Wait) []api.Wait { return l[:2] },
		"one thread more":  func(l []api.Wait) []api.Wait { return append(l, api.Wait{}) },
		"threads turned":   func(l []api.Wait) []api.Wait { slices.Reverse(l); return l },
		"no threads":       func(l []api.Wait) []api.Wait { return nil },
		"a place of zeros": func(l []api.Wait) []api.Wait { l[2] = api.Wait{}; return l },
	} {
		if l := change(row()); waits.Same(l, row()) || waits.Same(row(), l) {
			t.Errorf("%s: the same", what)
		}
	}
}

// spoil writes into all lists of a row, the room behind their ends included.
func spoil(l []api.Wait) {
	l = l[:cap(l)]
	for i := range l {
		k := l[i].Cases[:cap(l[i].Cases)]
		for j := range k {
			k[j] = api.Case{Dir: -1, Handle: -1, Value: -1}
		}
		l[i] = api.Wait{Ticket: -1}
	}
}

func TestNewMemory_P10_1(t *testing.T) {
	for what, call := range map[string]func(l []api.Wait, w api.Wait) []api.Wait{
		"put":           func(l []api.Wait, w api.Wait) []api.Wait { d, _ := waits.Put(l, 0, w); return d },
		"put in vain":   func(l []api.Wait, w api.Wait) []api.Wait { d, _ := waits.Put(l, 1, w); return d },
		"put by nobody": func(l []api.Wait, w api.Wait) []api.Wait { d, _ := waits.Put(l, 2, w); return d },
		"cut":           func(l []api.Wait, w api.Wait) []api.Wait { d, _ := waits.Cut(l, 1); return d },
		"cut in vain":   func(l []api.Wait, w api.Wait) []api.Wait { d, _ := waits.Cut(l, 0); return d },
		"cut of nobody": func(l []api.Wait, w api.Wait) []api.Wait { d, _ := waits.Cut(l, -1); return d },
		"copy":          func(l []api.Wait, w api.Wait) []api.Wait { return waits.Copy(l) },
	} {
		cases := func() []api.Case { return []api.Case{recv(1), send(2), recv(3)} }
		whole := func() []api.Wait {
			return []api.Wait{off(1, cases()...), wait(2, cases()...), wait(3, cases()...)}
		}
		l, k := whole(), cases()
		got, again := call(l[:2], api.Wait{Ticket: 9, Cases: k[:2]}), call(l[:2], api.Wait{Ticket: 9, Cases: k[:2]})
		if !reflect.DeepEqual(l, whole()) || !slices.Equal(k, cases()) {
			t.Errorf("%s changed %v, %v", what, l, k)
		}
		spoil(got)
		if !reflect.DeepEqual(l, whole()) || !slices.Equal(k, cases()) {
			t.Errorf("%s shares %v, %v", what, l, k)
		}
		if slices.ContainsFunc(again, func(w api.Wait) bool {
			return w.Ticket == -1 || slices.Contains(w.Cases, api.Case{Dir: -1, Handle: -1, Value: -1})
		}) {
			t.Errorf("%s: two answers share %v", what, again)
		}
	}
}

func TestNothingChanged_P10_2(t *testing.T) {
	whole := func() []api.Wait {
		return []api.Wait{wait(5, recv(8)), off(2, recv(8)), wait(3, send(8), recv(8)), wait(1, recv(8))}
	}
	l := whole()
	waits.First(l[:3], api.Recv, 8)
	on := waits.On(l[:3], 8)
	waits.Count(l[:3])
	waits.Same(l[:3], l)
	again := waits.On(l[:3], 8)
	if !reflect.DeepEqual(l, whole()) {
		t.Error(l)
	}
	if on[0] = -1; !slices.Equal(again, []int{2, 0}) {
		t.Error(again)
	}
}
