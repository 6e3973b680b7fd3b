package chans_test

import (
	"fmt"
	"math"
	"slices"
	"testing"

	"stopgate/api"
	"stopgate/chans"
)

func send(handle, value int) api.Case {
	return api.Case{Dir: api.Send, Handle: handle, Value: value}
}

func recv(handle int) api.Case { return api.Case{Dir: api.Recv, Handle: handle} }

func wait(ticket, seq int, cases ...api.Case) api.Wait {
	return api.Wait{On: true, Ticket: ticket, Seq: seq, Cases: cases}
}

// off is what is left in a place whose call does not wait.
func off(cases ...api.Case) api.Wait { return api.Wait{Seq: 1, Cases: cases} }

// open is a channel of a capacity, with values.
func open(capacity int, values ...int) api.Chan {
	return api.Chan{Gen: 1, Cap: capacity, Used: true, Buf: values}
}

func closed(values ...int) api.Chan {
	return api.Chan{Gen: 1, Cap: 1, Used: true, Closed: true, Buf: values}
}

// none is a place without a channel, in which things stand that no call leaves there.
func none() api.Chan { return api.Chan{Gen: 1, Cap: 3, Closed: true, Buf: []int{4}} }

// text tells all fields of things, nil lists as empty ones: what has the same text is the same.
func text(l ...any) string { return fmt.Sprintf("%+v", l) }

func told(thread, seq, which int, code api.Errno, value int) api.Told {
	return api.Told{Thread: thread, Result: api.Result{Seq: seq, Case: which, Code: code, Value: value}}
}

func TestExample_P11_2(t *testing.T) {
	c, l, r, x := chans.Do(open(0), 8, []api.Wait{wait(0, 1, recv(8))}, api.Send, 7)
	if text(c, l, r, x) != text(open(0), []api.Wait{{}}, api.Result{}, []api.Told{told(0, 1, 0, api.OK, 7)}) {
		t.Error(c, l, r, x)
	}
}

func TestCopy_P11_1(t *testing.T) {
	for _, c := range []api.Chan{{}, open(0), open(3, 1, 2), closed(5), none(), {Gen: -3, Cap: math.MinInt, Buf: []int{-1}}} {
		if got := chans.Copy(c); text(got) != text(c) {
			t.Errorf("Copy of %+v: %+v", c, got)
		}
	}
}

func TestSame_P11_1(t *testing.T) {
	if !chans.Same(open(3, 1, 2), open(3, 1, 2)) || !chans.Same(api.Chan{}, api.Chan{}) || !chans.Same(closed(), closed()) {
		t.Error("not the same")
	}
	if !chans.Same(api.Chan{Buf: []int{}}, api.Chan{}) {
		t.Error("no values, and nil")
	}
	for what, other := range map[string]api.Chan{
		"gen":      {Gen: 2, Cap: 3, Used: true, Buf: []int{1, 2}},
		"cap":      {Gen: 1, Cap: 2, Used: true, Buf: []int{1, 2}},
		"used":     {Gen: 1, Cap: 3, Buf: []int{1, 2}},
		"closed":   {Gen: 1, Cap: 3, Used: true, Closed: true, Buf: []int{1, 2}},
		"a value":  open(3, 1, 3),
		"order":    open(3, 2, 1),
		"one less": open(3, 1),
		"one more": open(3, 1, 2, 0),
		"none":     open(3),
	} {
		if chans.Same(open(3, 1, 2), other) || chans.Same(other, open(3, 1, 2)) {
			t.Errorf("%s: the same", what)
		}
	}
}

func TestReady_P11_1(t *testing.T) {
	sends, receives := []api.Wait{{}, wait(1, 1, recv(9), send(8, 3))}, []api.Wait{wait(1, 1, recv(8))}
	for _, c := range []struct {
		what       string
		c          api.Chan
		l          []api.Wait
		send, recv bool
	}{
		{"no room, no value", open(0), nil, false, false},
		{"room", open(1), nil, true, false},
		{"full", open(1, 5), nil, false, true},
		{"room and a value", open(2, 5), nil, true, true},
		{"more than there is room for", open(1, 5, 6), nil, false, true},
		{"a capacity below 0", open(-1), nil, false, false},
		{"a capacity at the end", open(math.MaxInt), nil, true, false},
		{"somebody sends", open(0), sends, false, true},
		{"somebody receives", open(0), receives, true, false},
		{"both wait", open(0), append(slices.Clone(sends), receives...), true, true},
		{"somebody receives, full", open(1, 5), receives, true, true},
		{"what is left does not wait", open(0), []api.Wait{off(send(8, 1), recv(8))}, false, false},
		{"waits for another", open(0), []api.Wait{wait(1, 1, send(9, 8), recv(16))}, false, false},
		{"waits without cases", open(0), []api.Wait{wait(1, 1)}, false, false},
		{"waits for what is none", open(0), []api.Wait{wait(1, 1, api.Case{Handle: 8}, api.Case{Dir: 3, Handle: 8})}, false, false},
		{"closed", closed(), nil, true, true},
		{"closed and full", closed(5), nil, true, true},
		{"none", none(), nil, false, false},
		{"none, and somebody waits", none(), []api.Wait{wait(1, 1, recv(8)), wait(2, 1, send(8, 1))}, false, false},
		{"zero", api.Chan{}, nil, false, false},
	} {
		if got := chans.Ready(c.c, 8, c.l, api.Send); got != c.send {
			t.Errorf("%s: ready to send: %v", c.what, got)
		}
		if got := chans.Ready(c.c, 8, c.l, api.Recv); got != c.recv {
			t.Errorf("%s: ready to receive: %v", c.what, got)
		}
	}
}

// odd is numbers that are no direction.
func odd() []int { return []int{0, 3, 4, -1, math.MaxInt, math.MinInt} }

func TestNoDirection_P11_1_P11_2(t *testing.T) {
	l := []api.Wait{wait(0, 1, send(8, 1)), wait(1, 1, recv(8))}
	for _, dir := range odd() {
		l[0].Cases = append(l[0].Cases, api.Case{Dir: 3 - dir, Handle: 8})
	}
	for _, dir := range odd() {
		for _, c := range []api.Chan{open(2, 1), closed(), open(0)} {
			if chans.Ready(c, 8, l, dir) {
				t.Errorf("%+v is ready for %d", c, dir)
			}
			d, m, r, x := chans.Do(c, 8, l, dir, 7)
			if text(d, m, r, x) != text(c, l, api.Result{Code: api.EBLOCK}, []api.Told{}) {
				t.Errorf("Do of %+v, %d: %+v, %+v, %+v, %+v", c, dir, d, m, r, x)
			}
		}
	}
}

func TestNotReady_P11_2(t *testing.T) {
	for _, c := range []struct {
		what string
		c    api.Chan
		l    []api.Wait
		dir  int
	}{
		{"no room", open(0), nil, api.Send},
		{"no value", open(0), nil, api.Recv},
		{"empty", open(3), []api.Wait{wait(0, 1, recv(8))}, api.Recv},
		{"full", open(1, 5), []api.Wait{wait(0, 1, send(8, 2)), off(recv(8))}, api.Send},
		{"none to send", none(), []api.Wait{wait(0, 1, recv(8))}, api.Send},
		{"none to receive", none(), []api.Wait{wait(0, 1, send(8, 2))}, api.Recv},
		{"zero", api.Chan{}, nil, api.Send},
	} {
		d, m, r, x := chans.Do(c.c, 8, c.l, c.dir, 7)
		if text(d, m, r, x) != text(c.c, c.l, api.Result{Code: api.EBLOCK}, []api.Told{}) {
			t.Errorf("%s: %+v, %+v, %+v, %+v", c.what, d, m, r, x)
		}
	}
}

func TestSend_P11_2(t *testing.T) {
	first := []api.Wait{wait(4, 2, recv(8)), wait(3, 5, send(8, 1), recv(9), recv(8), recv(8)), off(recv(8)), wait(7, 1, recv(8))}
	cut := []api.Wait{first[0], {}, first[2], first[3]}
	for _, c := range []struct {
		what  string
		c     api.Chan
		l     []api.Wait
		value int
		d     api.Chan
		m     []api.Wait
		code  api.Errno
		told  []api.Told
	}{
		{"room", open(1), nil, 7, open(1, 7), nil, api.OK, nil},
		{"behind", open(3, 5, 6), nil, 7, open(3, 5, 6, 7), nil, api.OK, nil},
		{"others wait to send", open(2, 5), []api.Wait{wait(0, 1, send(8, 1))}, 7, open(2, 5, 7), []api.Wait{wait(0, 1, send(8, 1))}, api.OK, nil},
		{"others wait elsewhere", open(2, 5), []api.Wait{wait(0, 1, recv(9))}, 7, open(2, 5, 7), []api.Wait{wait(0, 1, recv(9))}, api.OK, nil},
		{"the first that waits", open(0), first, 7, open(0), cut, api.OK, []api.Told{told(1, 5, 2, api.OK, 7)}},
		{"ahead of room", open(3, 5), first, 7, open(3, 5), cut, api.OK, []api.Told{told(1, 5, 2, api.OK, 7)}},
		{"though full", open(1, 5), first, 7, open(1, 5), cut, api.OK, []api.Told{told(1, 5, 2, api.OK, 7)}},
		{"a value below 0", open(1), nil, math.MinInt, open(1, math.MinInt), nil, api.OK, nil},
		{"a great value", open(0), []api.Wait{wait(-1, -2, recv(8))}, math.MaxInt, open(0), []api.Wait{{}}, api.OK, []api.Told{told(0, -2, 0, api.OK, math.MaxInt)}},
		{"closed", closed(), nil, 7, closed(), nil, api.ECLOSED, nil},
		{"closed, full", closed(5), nil, 7, closed(5), nil, api.ECLOSED, nil},
		{"closed, and somebody waits", closed(5), first, 7, closed(5), first, api.ECLOSED, nil},
	} {
		d, m, r, x := chans.Do(c.c, 8, c.l, api.Send, c.value)
		if text(d, m, r, x) != text(c.d, c.m, api.Result{Code: c.code}, c.told) {
			t.Errorf("%s: %+v, %+v, %+v, %+v", c.what, d, m, r, x)
		}
	}
}

func TestReceive_P11_2(t *testing.T) {
	first := []api.Wait{wait(4, 2, send(8, 40)), wait(3, 5, recv(8), send(9, 8), send(8, 30), send(8, 31)), off(send(8, 20)), wait(7, 1, send(8, 10))}
	cut := []api.Wait{first[0], {}, first[2], first[3]}
	was := []api.Told{told(1, 5, 2, api.OK, 0)}
	for _, c := range []struct {
		what  string
		c     api.Chan
		l     []api.Wait
		d     api.Chan
		m     []api.Wait
		code  api.Errno
		value int
		told  []api.Told
	}{
		{"a value", open(1, 5), nil, open(1), nil, api.OK, 5, nil},
		{"the first value", open(3, 5, 6, 7), nil, open(3, 6, 7), nil, api.OK, 5, nil},
		{"others wait to receive", open(2, 5), []api.Wait{wait(0, 1, recv(8))}, open(2), []api.Wait{wait(0, 1, recv(8))}, api.OK, 5, nil},
		{"others wait elsewhere", open(2, 5), []api.Wait{wait(0, 1, send(9, 1))}, open(2), []api.Wait{wait(0, 1, send(9, 1))}, api.OK, 5, nil},
		{"of the first that waits", open(0), first, open(0), cut, api.OK, 30, was},
		{"full: the first that waits comes behind", open(2, 5, 6), first, open(2, 6, 30), cut, api.OK, 5, was},
		{"room: the first that waits comes behind too", open(3, 5), first, open(3, 30), cut, api.OK, 5, was},
		{"a great value", open(0), []api.Wait{wait(-1, -2, send(8, math.MaxInt))}, open(0), []api.Wait{{}}, api.OK, math.MaxInt, []api.Told{told(0, -2, 0, api.OK, 0)}},
		{"closed", closed(), nil, closed(), nil, api.ECLOSED, 0, nil},
		{"closed, a value", closed(5, 6), nil, closed(6), nil, api.OK, 5, nil},
		{"closed, and others wait to receive", closed(), []api.Wait{wait(0, 1, recv(8))}, closed(), []api.Wait{wait(0, 1, recv(8))}, api.ECLOSED, 0, nil},
		{"closed, and somebody waits", closed(), first, closed(), cut, api.OK, 30, was},
	} {
		d, m, r, x := chans.Do(c.c, 8, c.l, api.Recv, 77)
		if text(d, m, r, x) != text(c.d, c.m, api.Result{Code: c.code, Value: c.value}, c.told) {
			t.Errorf("%s: %+v, %+v, %+v, %+v", c.what, d, m, r, x)
		}
	}
}

// By a channel values leave in the order in which they came into it, those of calls that wait too.
func TestInOrder_P11_2(t *testing.T) {
	for capacity := range 4 {
		c, l := open(capacity), make([]api.Wait, 6)
		for n := range 4 {
			l[5-n] = wait(n, n+1, send(8, 100+n))
		}
		for n := range capacity {
			c.Buf = append(c.Buf, 10+n)
		}
		want := slices.Concat(c.Buf, []int{100, 101, 102, 103})
		var got []int
		for range want {
			var r api.Result
			if c, l, r, _ = chans.Do(c, 8, l, api.Recv, 0); r.Code != api.OK {
				t.Fatal(capacity, r)
			}
			got = append(got, r.Value)
		}
		if !slices.Equal(got, want) || chans.Ready(c, 8, l, api.Recv) {
			t.Error(capacity, got, c)
		}
	}
}

func TestShut_P11_3(t *testing.T) {
	l := []api.Wait{wait(4, 2, recv(8)), wait(3, 5, send(9, 1), send(8, 7), recv(8)), off(recv(8)), wait(7, 1, recv(9), recv(0)), wait(3, 9, recv(1), recv(2), api.Case{Dir: 5, Handle: 8}), {}}
	left := []api.Wait{{}, {}, l[2], l[3], {}, {}}
	all := []api.Told{told(1, 5, 1, api.ECLOSED, 0), told(4, 9, 2, api.ECLOSED, 0), told(0, 2, 0, api.ECLOSED, 0)}
	for _, c := range []struct {
		what string
		c    api.Chan
		l    []api.Wait
		d    api.Chan
		m    []api.Wait
		e    api.Errno
		told []api.Told
	}{
		{"nobody waits", open(1), nil, closed(), nil, api.OK, nil},
		{"values stay", open(1, 5), make([]api.Wait, 2), closed(5), make([]api.Wait, 2), api.OK, nil},
		{"all that wait for it", open(1), l, closed(), left, api.OK, all},
		{"they wait for another", open(1), l[2:4], closed(), l[2:4], api.OK, nil},
		{"closed", closed(5), l, api.Chan{}, nil, api.ECLOSED, nil},
		{"none", none(), l, api.Chan{}, nil, api.ECLOSED, nil},
		{"none, not closed", api.Chan{Gen: 1}, l, api.Chan{}, nil, api.ECLOSED, nil},
	} {
		d, m, e, x := chans.Shut(c.c, 8, c.l)
		if text(d, m, e, x) != text(c.d, c.m, c.e, c.told) {
			t.Errorf("%s: %+v, %+v, %v, %+v", c.what, d, m, e, x)
		}
	}
}

func TestShutOnce_P11_3(t *testing.T) {
	c, l, e, x := chans.Shut(open(2, 5), 8, []api.Wait{wait(1, 1, send(8, 6))})
	if e != api.OK || len(x) != 1 {
		t.Fatal(e, x)
	}
	if _, _, e, _ = chans.Shut(c, 8, l); e != api.ECLOSED {
		t.Error(e)
	}
	if chans.Idle(c, 8, l) {
		t.Error("a value is there yet")
	}
	if c, l, r, _ := chans.Do(c, 8, l, api.Recv, 0); r.Value != 5 || !chans.Idle(c, 8, l) {
		t.Error(c, l, r)
	}
}

func TestIdle_P11_3(t *testing.T) {
	for _, c := range []struct {
		what string
		c    api.Chan
		l    []api.Wait
		want bool
	}{
		{"closed", closed(), nil, true},
		{"closed, nobody waits", closed(), make([]api.Wait, 3), true},
		{"what is left does not wait", closed(), []api.Wait{off(recv(8))}, true},
		{"somebody waits elsewhere", closed(), []api.Wait{wait(1, 1, recv(9))}, true},
		{"somebody waits to send", closed(), []api.Wait{wait(1, 1, recv(9), send(8, 1))}, false},
		{"somebody waits to receive", closed(), []api.Wait{wait(1, 1, recv(8))}, false},
		{"a value", closed(0), nil, false},
		{"open", open(1), nil, false},
		{"none", api.Chan{Gen: 1}, nil, false},
		{"none, closed", api.Chan{Gen: 1, Closed: true}, nil, false},
	} {
		if got := chans.Idle(c.c, 8, c.l); got != c.want {
			t.Errorf("%s: %v", c.what, got)
		}
	}
}

// spoil writes into all lists of an answer, the room behind their ends included.
func spoil(c api.Chan, l []api.Wait, x []api.Told) {
	for i := range c.Buf[:cap(c.Buf)] {
		c.Buf[:cap(c.Buf)][i] = -9
	}
	l = l[:cap(l)]
	for i := range l {
		cases := l[i].Cases[:cap(l[i].Cases)]
		for k := range cases {
			cases[k] = api.Case{Dir: -9, Handle: -9, Value: -9}
		}
		l[i] = api.Wait{Seq: -9}
	}
	for i := range x[:cap(x)] {
		x[:cap(x)][i] = told(-9, -9, -9, -9, -9)
	}
}

func TestNewMemory_P11_1_P11_2_P11_3(t *testing.T) {
	type answer struct {
		c api.Chan
		l []api.Wait
		x []api.Told
	}
	buf := func() []int { return []int{5, 6, 7, 8} }
	waiting := func() []api.Wait {
		return []api.Wait{wait(1, 1, recv(9), send(8, 3), recv(8)), wait(2, 1, recv(9), recv(8)), off(recv(8), recv(9))}
	}
	do := func(dir, handle int) func(c api.Chan, l []api.Wait) answer {
		return func(c api.Chan, l []api.Wait) answer {
			d, m, _, x := chans.Do(c, handle, l, dir, 4)
			return answer{d, m, x}
		}
	}
	shut := func(handle int) func(c api.Chan, l []api.Wait) answer {
		return func(c api.Chan, l []api.Wait) answer {
			d, m, _, x := chans.Shut(c, handle, l)
			return answer{d, m, x}
		}
	}
	for what, call := range map[string]func(c api.Chan, l []api.Wait) answer{
		"copy":                 func(c api.Chan, l []api.Wait) answer { return answer{c: chans.Copy(c)} },
		"send":                 do(api.Send, 7),
		"send to one":          do(api.Send, 8),
		"receive":              do(api.Recv, 7),
		"receive of one":       do(api.Recv, 8),
		"nothing":              do(3, 8),
		"shut":                 shut(7),
		"shut, and some waits": shut(8),
		"ready, idle, same": func(c api.Chan, l []api.Wait) answer {
			chans.Ready(c, 8, l, api.Send)
			chans.Idle(c, 8, l)
			chans.Same(c, c)
			return answer{}
		},
	} {
		for _, shutNow := range []bool{false, true} {
			b, l := buf(), waiting()
			c := api.Chan{Gen: 1, Cap: 3, Used: true, Closed: shutNow, Buf: b[:2]}
			got, again := call(c, l[:2]), call(c, l[:2])
			want := text(again)
			if text(b, l) != text(buf(), waiting()) {
				t.Errorf("%s changed %v, %+v", what, b, l)
			}
			spoil(got.c, got.l, got.x)
			if text(b, l) != text(buf(), waiting()) {
				t.Errorf("%s shares %v, %+v", what, b, l)
			}
			if text(again) != want {
				t.Errorf("%s: two answers share %+v", what, again)
			}
		}
	}
}
