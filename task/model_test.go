package task_test

import (
	"math"
	"slices"
	"testing"

	"stopgate/api"
	"stopgate/code"
	"stopgate/object"
	"stopgate/pack"
	nodes "stopgate/pool"
	"stopgate/ref"
	"stopgate/retire"
	"stopgate/task"
)

// plain is a step told as the table tells it, line by line, on a plain row of words: what the program does is held against it.
type plain struct {
	c      api.Config
	l      []uint64
	t      int
	x      api.Task
	out    api.Out
	access []api.Access
}

// at is a word, or none, where one reads or writes.
func (p *plain) do(kind, addr int, want, now uint64) (uint64, bool) {
	if addr < 0 || addr >= len(p.l) {
		return 0, false
	}
	was := p.l[addr]
	a := api.Access{Thread: p.t, Kind: kind, Addr: addr, Old: was, Now: was, Ok: true}
	switch kind {
	case api.Store:
		a.Now = now
	case api.Add:
		a.Now = was + now
	case api.Swap:
		a.Want, a.Ok = want, was == want
		if a.Ok {
			a.Now = now
		}
	}
	p.l[addr] = a.Now
	p.access = append(p.access, a)
	return was, a.Ok
}

func (p *plain) load(addr int) uint64 {
	w, _ := p.do(api.Load, addr, 0, 0)
	return w
}

// Where words lie, by the sums of layer 15.
func (p *plain) seqAt(t int) int    { return 3 + t }
func (p *plain) argsAt(t int) int   { return 3 + p.c.Threads + 5*t }
func (p *plain) hazardAt(t int) int { return 3 + 6*p.c.Threads + t }
func (p *plain) epochAt(t int) int  { return 3 + 7*p.c.Threads + t }
func (p *plain) mailAt(t int) int   { return 3 + 8*p.c.Threads + t }
func (p *plain) nodeAt(i int) int   { return 3 + 9*p.c.Threads + i*(1+code.Size(p.c)) }

func (p *plain) done(l []uint64, u int) api.Result {
	return pack.ReadResult(object.Done(p.c, l, u))
}

func (p *plain) behind(x uint64, l []uint64, u int) bool {
	return pack.Rank(pack.ReadResult(x)) < pack.Rank(p.done(l, u))
}

func (p *plain) take() {
	x := &p.x
	behind, ok := nodes.Take(x.Pool, p.c.Tags)
	x.Pool = behind
	if ok {
		x.Scans = false
		p.round()
	} else if len(behind.Old) > 0 && !x.Scans {
		x.Scans, x.Pc = true, 24
	} else {
		x.Res, x.Scans, x.Pc = api.Result{Seq: x.Seq, Code: nodes.Why(behind)}, false, 28
	}
}

func (p *plain) round() {
	x := &p.x
	x.Pc = 3
	if !x.Slow && x.Round > p.c.Patience {
		x.Pc = 16
	}
	if x.Slow && x.Round > 3 {
		x.Pc = 19
	}
}

func (p *plain) fail() {
	p.x.Round, p.x.Found = p.x.Round+1, nil
	p.round()
}

func (p *plain) nextThread() {
	x := &p.x
	x.I, x.Pc = x.I+1, 8
	if x.I == p.c.Threads {
		x.I, x.Try, x.Pc = 0, 0, 11
	}
}

func (p *plain) nextMail() {
	x := &p.x
	x.I, x.Try, x.Pc = x.I+1, 0, 11
	if x.I == p.c.Threads {
		x.Found = object.Order(x.Found)
		if !x.Slow {
			x.Found = append(x.Found, api.Op{Thread: p.t, Seq: x.Seq, Phase: 0, Req: x.Req})
		}
		x.Next = slices.Clone(x.Buf)
		for _, o := range x.Found {
			x.Next = object.Apply(p.c, x.Next, o.Thread, o.Seq, o.Req)
		}
		x.I, x.Pc = 0, 13
	}
}

func (p *plain) needs() bool { return retire.Needs(p.x.Pool, p.c.Retire) }

func (p *plain) owned() {
	if p.x.Waits {
		p.finish()
	} else if p.needs() {
		p.x.Pc = 24
	} else {
		p.x.Pc = 28
	}
}

func (p *plain) scanned() {
	if p.x.Scans {
		p.take()
	} else {
		p.x.Pc = 28
	}
}

func (p *plain) over(r api.Result) bool { return r.Seq == p.x.Seq && r.Code != api.EPARK }

func (p *plain) finish() {
	p.out.Note = 3
	p.x = api.Task{Seq: p.x.Seq, Req: p.x.Req, Res: p.x.Res, Pool: p.x.Pool}
}

// enter is the lines 1 to 7.
func (p *plain) enter() {
	x := &p.x
	switch x.Pc {
	case 1:
		x.Epoch, x.Pc = int(p.load(1)), 2
	case 2:
		p.do(api.Store, p.epochAt(p.t), 0, uint64(x.Epoch)*2+1)
		p.take()
	case 3:
		x.Base, _ = ref.Read(p.load(0))
		x.Pc = 4
	case 4:
		p.do(api.Store, p.hazardAt(p.t), 0, ref.Word(x.Base))
		x.Pc = 5
	case 5:
		if p.load(0) == ref.Word(x.Base) {
			x.Pc = 6
		} else {
			p.fail()
		}
	case 6:
		if int(p.load(p.nodeAt(x.Base.Index))) == x.Base.Tag {
			x.I, x.Buf, x.Pc = 0, nil, 7
		} else {
			p.fail()
		}
	case 7:
		x.Buf = append(x.Buf, p.load(p.nodeAt(x.Base.Index)+1+x.I))
		x.I++
		if x.I == code.Size(p.c) {
			x.I, x.Found, x.Pc = 0, nil, 8
			if x.Slow && p.done(x.Buf, p.t).Seq == x.Seq {
				x.Res, x.Pc = p.done(x.Buf, p.t), 20
			}
		}
	}
}

// help is the lines 8 to 12.
func (p *plain) help() {
	x := &p.x
	switch x.Pc {
	case 8:
		x.Word = p.load(p.seqAt(x.I))
		if x.Word <= 1<<20-1 && int(x.Word) > p.done(x.Buf, x.I).Seq {
			x.J, x.Args, x.Pc = 0, nil, 9
		} else {
			p.nextThread()
		}
	case 9:
		x.Args = append(x.Args, p.load(p.argsAt(x.I)+x.J))
		x.J++
		if x.J == 5 {
			x.Pc = 10
		}
	case 10:
		w := p.load(p.seqAt(x.I))
		if q, phase, ok := pack.ReadCall(x.Args); ok && w == x.Word {
			x.Found = append(x.Found, api.Op{Thread: x.I, Seq: int(w), Phase: phase, Req: q})
		}
		p.nextThread()
	case 11:
		x.Word = p.load(p.mailAt(x.I))
		if p.behind(x.Word, x.Buf, x.I) {
			x.Pc = 12
		} else {
			p.nextMail()
		}
	case 12:
		_, ok := p.do(api.Swap, p.mailAt(x.I), x.Word, object.Done(p.c, x.Buf, x.I))
		x.Try++
		if ok || x.Try == 2 {
			p.nextMail()
		} else {
			x.Pc = 11
		}
	}
}

// change is the lines 13 to 19.
func (p *plain) change() {
	x := &p.x
	switch x.Pc {
	case 13:
		p.do(api.Store, p.nodeAt(x.Pool.Own.Index), 0, uint64(x.Pool.Own.Tag))
		x.Pc = 14
	case 14:
		p.do(api.Store, p.nodeAt(x.Pool.Own.Index)+1+x.I, 0, from(x.Next, x.I))
		x.I++
		if x.I == len(x.Next) {
			x.Pc = 15
		}
	case 15:
		if _, ok := p.do(api.Swap, 0, ref.Word(x.Base), ref.Word(x.Pool.Own)); ok {
			p.out = api.Out{Won: true, Ops: slices.Clone(x.Found)}
			x.Won, x.Res, x.Pool, x.Pc = true, p.done(x.Next, p.t), nodes.Leave(x.Pool), 20
		} else {
			p.fail()
		}
	case 16:
		w, _ := p.do(api.Add, 2, 0, 1)
		x.Args, x.J, x.Pc = pack.Call(x.Req, int(w%(1<<32))), 0, 17
	case 17:
		p.do(api.Store, p.argsAt(p.t)+x.J, 0, from(x.Args, x.J))
		x.J++
		if x.J == 5 {
			x.Pc = 18
		}
	case 18:
		p.do(api.Store, p.seqAt(p.t), 0, uint64(x.Seq))
		x.Slow, x.Round, x.Pc = true, 1, 3
	case 19:
		x.Res, x.Pc = pack.ReadResult(p.load(p.mailAt(p.t))), 20
	}
}

// from is a word of a list; 0, if it lacks it.
func from(l []uint64, n int) uint64 {
	if n < 0 || n >= len(l) {
		return 0
	}
	return l[n]
}

// leave is the lines 20 to 28.
func (p *plain) leave() {
	x := &p.x
	switch x.Pc {
	case 20:
		p.do(api.Store, p.hazardAt(p.t), 0, 0)
		x.Try, x.Pc = 0, 22
		if x.Won {
			x.Pc = 21
		}
	case 21:
		x.Pool, x.Pc = nodes.Away(x.Pool, x.Base, int(p.load(1))), 22
	case 22:
		x.Word = p.load(p.mailAt(p.t))
		if pack.Behind(x.Word, pack.Result(x.Res)) {
			x.Pc = 23
		} else {
			p.owned()
		}
	case 23:
		_, ok := p.do(api.Swap, p.mailAt(p.t), x.Word, pack.Result(x.Res))
		x.Try++
		if ok || x.Try == 2 {
			p.owned()
		} else {
			x.Pc = 22
		}
	case 24, 25, 26, 27:
		p.scan()
	case 28:
		p.do(api.Store, p.epochAt(p.t), 0, 0)
		if x.Res.Code == api.EPARK {
			p.out.Note = 2
			p.x = api.Task{Pc: 29, Seq: x.Seq, Req: x.Req, Res: x.Res, Pool: x.Pool, Waits: true}
		} else {
			p.finish()
		}
	}
}

// scan is the lines 24 to 27.
func (p *plain) scan() {
	x := &p.x
	switch x.Pc {
	case 24:
		x.Word = p.load(1)
		x.Pool, _ = retire.ByEpoch(x.Pool, int(x.Word))
		x.I, x.All, x.Pc = 0, true, 25
		if !p.needs() {
			p.scanned()
		}
	case 25:
		w := p.load(p.epochAt(x.I))
		if x.I != p.t && !pack.Lets(w, int(x.Word)) {
			x.All = false
		}
		x.I++
		if x.I == p.c.Threads {
			x.I, x.Seen, x.Pc = 0, nil, 27
			if x.All {
				x.Pc = 26
			}
		}
	case 26:
		_, ok := p.do(api.Swap, 1, x.Word, x.Word+1)
		if ok {
			x.Pool, _ = retire.ByEpoch(x.Pool, int(x.Word+1))
		}
		if ok && !p.needs() {
			p.scanned()
		} else {
			x.Pc = 27
		}
	case 27:
		x.Seen = append(x.Seen, p.load(p.hazardAt(x.I)))
		x.I++
		if x.I == p.c.Threads {
			x.Pool, _ = retire.BySlots(x.Pool, x.Seen)
			p.scanned()
		}
	}
}

// wait is the lines 29 to 38.
func (p *plain) wait() {
	x := &p.x
	switch x.Pc {
	case 29:
		r := pack.ReadResult(p.load(p.mailAt(p.t)))
		x.Pc = 30
		if p.over(r) {
			x.Res = r
			p.finish()
		}
	case 30:
		x.Epoch, x.Pc = int(p.load(1)), 31
	case 31:
		p.do(api.Store, p.epochAt(p.t), 0, uint64(x.Epoch)*2+1)
		x.Pc = 32
	case 32:
		x.Base, _ = ref.Read(p.load(0))
		x.Pc = 33
	case 33:
		p.do(api.Store, p.hazardAt(p.t), 0, ref.Word(x.Base))
		x.Pc = 34
	case 34:
		x.Word, x.Pc = 0, 37
		if p.load(0) == ref.Word(x.Base) {
			x.Pc = 35
		}
	case 35:
		x.Pc = 37
		if int(p.load(p.nodeAt(x.Base.Index))) == x.Base.Tag {
			x.Pc = 36
		}
	case 36:
		x.Word, x.Pc = p.load(p.nodeAt(x.Base.Index)+1+code.State(p.c)+p.t), 37
	case 37:
		p.do(api.Store, p.hazardAt(p.t), 0, 0)
		x.Pc = 38
	case 38:
		p.do(api.Store, p.epochAt(p.t), 0, 0)
		x.Pc = 29
		if r := pack.ReadResult(x.Word); p.over(r) {
			x.Res, x.Try, x.Pc = r, 0, 22
		}
	}
}

// told is a step as the table tells it: the thread, what it did, its accesses, and the words then.
func told(c api.Config, l []uint64, t int, x api.Task) (api.Task, api.Out, []api.Access, []uint64) {
	p := plain{c: c, l: slices.Clone(l), t: t, x: x}
	for _, list := range []*[]uint64{&p.x.Buf, &p.x.Next, &p.x.Args, &p.x.Seen} {
		*list = slices.Clone(*list)
	}
	p.x.Found = slices.Clone(x.Found)
	switch pc := x.Pc; {
	case pc <= 7:
		p.enter()
	case pc <= 12:
		p.help()
	case pc <= 19:
		p.change()
	case pc <= 28:
		p.leave()
	default:
		p.wait()
	}
	return p.x, p.out, p.access, p.l
}

// pick is a mixed number below n.
func pick(mixed *uint64, n int) int {
	*mixed = *mixed*6364136223846793005 + 1442695040888963407
	return int(*mixed >> 33 % uint64(n))
}

// anyOf is one of some things.
func anyOf[T any](mixed *uint64, l ...T) T { return l[pick(mixed, len(l))] }

// few is a few things.
func few[T any](mixed *uint64, most int, one func() T) []T {
	var l []T
	for range pick(mixed, most+1) {
		l = append(l, one())
	}
	return l
}

// request is a mixed call that may be.
func request(mixed *uint64) api.Request {
	handle := func() int { return 8 + 8*pick(mixed, 2)*pick(mixed, 2) + pick(mixed, 2) }
	switch n := pick(mixed, 16); {
	case n == 0:
		return api.Request{Kind: api.RMake, Arg: pick(mixed, 3)}
	case n == 1:
		return api.Request{Kind: api.RCancel, Arg: pick(mixed, 3), Value: 1 + pick(mixed, 9)}
	case n <= 4:
		return api.Request{Kind: []int{api.RFree, api.RClose, api.RLen}[n-2], Arg: handle()}
	case n <= 9:
		return api.Request{Kind: []int{api.RPut, api.RTake}[n%2], Value: pick(mixed, 100)}
	}
	return api.Request{Kind: api.RSelect, Default: pick(mixed, 5) == 0, Cases: few(mixed, 3, func() api.Case {
		return api.Case{Dir: 1 + pick(mixed, 2), Handle: handle(), Value: pick(mixed, 1000)}
	})}
}

// resultWord is a mixed word that says what a call came to.
func resultWord(mixed *uint64) uint64 {
	return uint64(pick(mixed, 5))<<44 | uint64(anyOf(mixed, 0, 0, 14, 1))<<32 | uint64(pick(mixed, 3))
}

// name is a mixed name; at times none.
func name(mixed *uint64, c api.Config) api.Ref {
	return api.Ref{Index: pick(mixed, 1+c.Threads*c.Nodes), Tag: pick(mixed, 4)}
}

// anyWords is mixed words of a machine, of which some fit together.
func anyWords(mixed *uint64, c api.Config) []uint64 {
	l := make([]uint64, 3+9*c.Threads+(1+c.Threads*c.Nodes)*(1+code.Size(c)))
	for i := range l {
		switch pick(mixed, 5) {
		case 0:
			l[i] = uint64(pick(mixed, 5))
		case 1:
			l[i] = ref.Word(name(mixed, c))
		case 2:
			l[i] = resultWord(mixed)
		}
	}
	l[1] = uint64(pick(mixed, 5))
	for t := range c.Threads {
		if pick(mixed, 2) == 0 {
			copy(l[3+c.Threads+5*t:], pack.Call(request(mixed), pick(mixed, 5)))
		}
	}
	return l
}

// anyTask is a mixed thread, made by hand, of which some things fit together.
func anyTask(mixed *uint64, c api.Config, l []uint64) api.Task {
	small := func() int { return anyOf(mixed, 0, 0, 1, 1, 2, 3, 4, 5, 7, -1, math.MaxInt, math.MinInt) }
	flag := func() bool { return pick(mixed, 3) == 0 }
	some := func() uint64 { return l[pick(mixed, len(l))] }
	x := api.Task{
		Pc: 1 + pick(mixed, 38), Seq: pick(mixed, 5), Req: request(mixed), Slow: flag(), Round: pick(mixed, 6), I: anyOf(mixed, small(), pick(mixed, c.Threads), c.Threads-1, code.Size(c)-1),
		J: anyOf(mixed, small(), 4), Try: pick(mixed, 3), Epoch: small(), All: flag(), Base: name(mixed, c), Buf: few(mixed, 9, some), Next: few(mixed, 9, some), Word: some(),
		Args: few(mixed, 5, some), Found: few(mixed, 3, func() api.Op {
			return api.Op{Thread: pick(mixed, c.Threads), Seq: pick(mixed, 5), Phase: pick(mixed, 4), Req: request(mixed)}
		}),
		Seen: few(mixed, 3, func() uint64 { return ref.Word(name(mixed, c)) }), Res: pack.ReadResult(resultWord(mixed)), Won: flag(), Waits: flag(), Scans: flag(),
	}
	x.Pool = api.Pool{
		Free: few(mixed, 2, func() api.Slot { return api.Slot{Index: pick(mixed, 6), Tag: anyOf(mixed, 0, 1, c.Tags)} }),
		Old:  few(mixed, 3, func() api.Old { return api.Old{Ref: name(mixed, c), Stamp: pick(mixed, 5)} }),
	}
	if flag() {
		x.Pool.Own = name(mixed, c)
	}
	if !flag() {
		x.Base, _ = ref.Read(l[0])
	}
	if pick(mixed, 2) == 0 {
		x.Buf, x.Next, x.Args = object.Start(c), object.Start(c), pack.Call(x.Req, 3)
	}
	return x
}

// same holds a step against the table.
func same(t *testing.T, what string, c api.Config, l []uint64, thread int, x api.Task) {
	t.Helper()
	m := words(t, c, nil)
	m.Poke(0, l...)
	before := text(x)
	got, out := task.Step(c, m, thread, x)
	want, said, access, behind := told(c, l, thread, x)
	if text(got, out) != text(want, said) || text(m.Log()) != text(access) || !slices.Equal(m.All(), behind) || text(x) != before {
		t.Fatalf("%s: thread %d, %+v:\n%+v, %+v, %+v, not\n%+v, %+v, %+v", what, thread, x, got, out, m.Log(), want, said, access)
	}
}

// Also of threads and words made by hand the table is done.
func TestAnyTask_P16_2_P16_3(t *testing.T) {
	mixed := uint64(7)
	for row := range 25000 {
		c := cells(1+pick(&mixed, 2), 1+pick(&mixed, 3), 1+pick(&mixed, 2), 1+pick(&mixed, 3))
		if pick(&mixed, 4) == 0 {
			c = hall(1+pick(&mixed, 2), 1, 2)
		}
		c.Patience, c.Retire, c.Tags = pick(&mixed, 3), 1+pick(&mixed, 3), anyOf(&mixed, 1, 3, 9)
		l := anyWords(&mixed, c)
		same(t, text("row", row, c), c, l, pick(&mixed, c.Threads), anyTask(&mixed, c, l))
	}
}

// Odd numbers in all that a thread has lead to no panic, and to one access at most.
func TestOddTask_P16_2(t *testing.T) {
	for pc := range 39 {
		for _, n := range odd {
			x := full()
			x.Pc, x.Seq, x.Round, x.I, x.J, x.Try, x.Epoch, x.Word = pc, n, n, n, n, n, n, uint64(n)
			x.Base, x.Pool.Own, x.Res = api.Ref{Index: n, Tag: n}, api.Ref{Index: n, Tag: n}, api.Result{Seq: n, Case: n, Code: api.Errno(n), Value: n}
			x.Req = api.Request{Kind: n, Arg: n, Value: n}
			x.Pool.Old, x.Pool.Free = old([3]int{n, n, n}, [3]int{n, 1, n}), []api.Slot{{Index: n, Tag: n}}
			for _, i := range []int{n, 0, 1} {
				x.I = i
				m := words(t, queue, nil)
				if task.Step(queue, m, 1, x); len(m.Log()) > 1 {
					t.Errorf("%d, %d: %+v", pc, n, m.Log())
				}
				same(t, text("odd", pc, n, i), queue, m.All(), 1, x)
			}
		}
	}
}
