package task_test

import (
	"slices"
	"testing"

	"stopgate/api"
	"stopgate/code"
	"stopgate/layout"
	"stopgate/mem"
	"stopgate/object"
	"stopgate/pack"
	"stopgate/ref"
	"stopgate/task"
)

// id is a call: whose, and its number.
type id struct{ thread, seq int }

// run is a machine's threads that step, and what is known of what they did.
type run struct {
	t       *testing.T
	c       api.Config
	m       *mem.Mem
	tasks   []api.Task
	steps   []int               // of each thread's call, as far as it did not wait
	records map[uint64][]uint64 // of each name that the root had
	done    map[id]api.Result   // what calls came to, by the root
	ops     []api.Op            // all calls that the root got
	notes   map[id]int          // the last note of each call
	seen    [39]int             // how often steps began where
	check   bool                // is each step held against the table?
}

func newRun(t *testing.T, c api.Config) *run {
	t.Helper()
	m, e := layout.Setup(c)
	if e != api.OK {
		t.Fatal(e)
	}
	r := &run{t: t, c: c, m: m, steps: make([]int, c.Threads), records: map[uint64][]uint64{65537: object.Start(c)}, done: map[id]api.Result{}, notes: map[id]int{}}
	for n := range c.Threads {
		r.tasks = append(r.tasks, task.New(c, n))
	}
	return r
}

// limit is how many steps a call does at most, till it returns or waits.
func (r *run) limit() int {
	return (r.c.Patience+3)*(6+2*code.Size(r.c)+11*r.c.Threads) + 4*r.c.Threads + 21
}

// begin lets a thread begin a call.
func (r *run) begin(n int, q api.Request) api.Errno {
	r.t.Helper()
	x, e := task.Begin(r.c, r.tasks[n], q)
	r.tasks[n] = x
	if e == api.OK {
		r.steps[n] = 0
	}
	return e
}

// step lets a thread do so many steps.
func (r *run) step(n, times int) {
	r.t.Helper()
	for range times {
		r.once(n)
	}
}

// once lets a thread do a step, and asks what must hold of it.
func (r *run) once(n int) {
	r.t.Helper()
	x, root := r.tasks[n], r.m.Peek(0)
	if x.Pc != api.PIdle {
		r.seen[x.Pc]++
	}
	if r.check && x.Pc != api.PIdle {
		same(r.t, "on its way", r.c, r.m.All(), n, x)
	}
	got, out := task.Step(r.c, r.m, n, x)
	r.tasks[n] = got
	if x.Pc != api.PIdle && !x.Waits {
		r.steps[n]++
	}
	if r.steps[n] > r.limit() {
		r.t.Fatalf("thread %d: %d steps, %+v", n, r.steps[n], got)
	}
	if now := r.m.Peek(0); out.Won != (now != root) {
		r.t.Fatalf("thread %d: the root was %x, and is %x: %+v", n, root, now, out)
	} else if out.Won {
		r.turn(n, root, now, out.Ops)
	}
	r.note(n, out.Note)
	r.reads()
	if got.Pc == api.PGetSeq && x.Pc == api.PGetRecord && !slices.Equal(got.Buf, r.records[ref.Word(got.Base)]) {
		r.t.Fatalf("thread %d read %x", n, got.Buf)
	}
}

// turn takes a change of the root: it has a new name, each call is done once, and the record is what the calls make of the one that was.
func (r *run) turn(n int, was, now uint64, ops []api.Op) {
	r.t.Helper()
	name, _ := ref.Read(now)
	if r.records[now] != nil || r.m.Peek(layout.Node(r.c, name.Index)) != uint64(name.Tag) {
		r.t.Fatalf("thread %d: the root is %v", n, name)
	}
	for _, o := range ops {
		if _, ok := r.done[id{o.Thread, o.Seq}]; ok || r.tasks[o.Thread].Seq != o.Seq || r.tasks[o.Thread].Pc == api.PIdle || text(r.tasks[o.Thread].Req) != text(o.Req) {
			r.t.Fatalf("thread %d did %+v", n, o)
		}
		r.done[id{o.Thread, o.Seq}] = api.Result{}
	}
	r.ops = append(r.ops, ops...)
	l := object.All(r.c, r.records[was], ops)
	at := layout.Node(r.c, name.Index) + 1
	if !slices.Equal(r.m.All()[at:at+code.Size(r.c)], l) {
		r.t.Fatalf("thread %d: the record is not %x", n, l)
	}
	r.records[now] = l
	for u := range r.c.Threads {
		if d := pack.ReadResult(object.Done(r.c, l, u)); d.Seq > 0 {
			r.done[id{u, d.Seq}] = d
		}
	}
}

// note takes what a thread was told: just what its call came to, or that no node was to be had.
func (r *run) note(n, kind int) {
	r.t.Helper()
	x := r.tasks[n]
	if kind == 0 {
		return
	}
	me := id{n, x.Seq}
	d, ok := r.done[me]
	if !ok && (kind != api.NReturn || x.Res.Seq != x.Seq || x.Res.Code != api.ENOMEM && x.Res.Code != api.ETAG) {
		r.t.Fatalf("thread %d was told %+v, and nothing was done", n, x.Res)
	}
	if ok && kind == api.NReturn && x.Res != d || kind == api.NPark && (x.Res != api.Result{Seq: x.Seq, Code: api.EPARK}) {
		r.t.Fatalf("thread %d was told %+v, not %+v", n, x.Res, d)
	}
	if (kind == api.NReturn) != (x.Pc == api.PIdle) || (kind == api.NPark) != x.Waits || r.notes[me] >= kind {
		r.t.Fatalf("thread %d: note %d, %+v", n, kind, x)
	}
	r.notes[me] = kind
}

// reads asks that nodes that are read have their tags, are guarded, and are nobody's to write.
func (r *run) reads() {
	r.t.Helper()
	for n, x := range r.tasks {
		if x.Pc < api.PGetTag || x.Pc > api.PSwapRoot && x.Pc != api.PWaitTag && x.Pc != api.PWaitRecord {
			continue
		}
		if r.m.Peek(layout.Node(r.c, x.Base.Index)) != uint64(x.Base.Tag) || r.m.Peek(layout.Hazard(r.c, n)) != ref.Word(x.Base) {
			r.t.Fatalf("thread %d reads %v, which is another node by now", n, x.Base)
		}
		for u, y := range r.tasks {
			if y.Pool.Own.Tag > 0 && y.Pool.Own.Index == x.Base.Index || slices.ContainsFunc(y.Pool.Free, func(s api.Slot) bool { return s.Index == x.Base.Index }) {
				r.t.Fatalf("thread %d reads %v, which thread %d may write", n, x.Base, u)
			}
		}
	}
}

// settle lets all threads step in turn, till none is on its way but those that wait.
func (r *run) settle() {
	r.t.Helper()
	for range 3 * r.limit() {
		for n := range r.tasks {
			r.once(n)
		}
	}
	for n, x := range r.tasks {
		d := r.done[id{n, x.Seq}]
		if x.Pc != api.PIdle && (!x.Waits || d != api.Result{Seq: x.Seq, Code: api.EPARK}) {
			r.t.Fatalf("thread %d is on its way: %+v", n, x)
		}
	}
}

func TestExample_P16_2(t *testing.T) {
	r := newRun(t, queue)
	r.begin(0, put(7))
	for n := range 25 {
		if r.tasks[0].Pc == api.PIdle {
			t.Fatalf("%d steps", n)
		}
		r.once(0)
	}
	if r.tasks[0].Pc != api.PIdle || r.tasks[0].Res != (api.Result{Seq: 1}) || r.m.Peek(0) != 1<<16+2 || r.m.Count(0) != 25 {
		t.Errorf("%+v, %x", r.tasks[0], r.m.Peek(0))
	}
}

// way is where a thread that calls alone stands, step by step.
func way(r *run, n int) []int {
	var l []int
	for r.tasks[n].Pc != api.PIdle && len(l) < 200 {
		l = append(l, r.tasks[n].Pc)
		r.once(n)
	}
	return l
}

func TestWay_P16_2_P16_3(t *testing.T) {
	r := newRun(t, queue)
	r.begin(0, put(7))
	if got := way(r, 0); !slices.Equal(got, []int{1, 2, 3, 4, 5, 6, 7, 7, 7, 7, 8, 8, 11, 11, 13, 14, 14, 14, 14, 15, 20, 21, 22, 23, 28}) {
		t.Error(got)
	}
	hasty := queue
	hasty.Patience = 0
	r = newRun(t, hasty)
	r.begin(0, put(7))
	if got := way(r, 0); !slices.Equal(got, []int{1, 2, 16, 17, 17, 17, 17, 17, 18, 3, 4, 5, 6, 7, 7, 7, 7, 8, 9, 9, 9, 9, 9, 10, 8, 11, 11, 13, 14, 14, 14, 14, 15, 20, 21, 22, 23, 28}) {
		t.Error(got)
	}
}

// A receive waits; a send ends it; the mail is brought up by the next call, or the root is asked.
func TestWaits_P16_2(t *testing.T) {
	for _, mailed := range []bool{true, false} {
		r := newRun(t, hall(2, 0, 4, 0))
		r.begin(0, sel(recv(8)))
		r.step(0, 60)
		if x := r.tasks[0]; !x.Waits || x.Res.Code != api.EPARK {
			t.Fatalf("%+v", x)
		}
		r.begin(1, sel(send(8, 7)))
		r.step(1, 100)
		if mailed {
			r.begin(1, kind(api.RLen))
			r.step(1, 100)
		}
		got := way(r, 0)
		want := map[bool]int{true: 29, false: 23}[mailed]
		if x := r.tasks[0]; x.Res != (api.Result{Seq: 1, Value: 7}) || got[len(got)-1] != want {
			t.Errorf("%+v, %d", x, got)
		}
		if r.m.Peek(layout.Mail(r.c, 0)) != 1<<44|7 {
			t.Error("the mail is old")
		}
	}
}

// Two threads send into a channel of capacity 1, and stall behind their announcements: a third one's two calls do both, one waits.
func TestHelps_P16_2_P16_3(t *testing.T) {
	c := hall(3, 1, 6, 1)
	c.Patience = 0
	r := newRun(t, c)
	for n := range 2 {
		r.begin(n, sel(send(8, 5+n)))
		for r.tasks[n].Pc != api.PGetRoot {
			r.once(n)
		}
	}
	for range 2 {
		r.begin(2, kind(api.RLen))
		r.step(2, 500)
	}
	if r.done[id{0, 1}] != (api.Result{Seq: 1}) || r.done[id{1, 1}] != (api.Result{Seq: 1, Code: api.EPARK}) || len(r.ops) != 4 {
		t.Errorf("%+v, %+v", r.done, r.ops)
	}
	r.settle()
	if r.tasks[0].Res != (api.Result{Seq: 1}) || r.tasks[0].Pc != api.PIdle || !r.tasks[1].Waits {
		t.Errorf("%+v", r.tasks)
	}
}

// While a thread stalls that reads a node, that node stays; others come and go.
func TestStall_P16_2_P16_3(t *testing.T) {
	c := cells(api.KFifo, 2, 1, 6)
	c.Tags, c.Seqs = api.MaxTags, api.MaxSeqs
	r := newRun(t, c)
	r.begin(0, put(7))
	r.step(0, 7)
	if r.tasks[0].Pc != api.PGetRecord || r.tasks[0].Base != (api.Ref{Index: 0, Tag: 1}) {
		t.Fatalf("%+v", r.tasks[0])
	}
	for range 100 {
		if e := r.begin(1, put(8)); e != api.OK {
			t.Fatal(e)
		}
		r.step(1, r.limit())
		if x := r.tasks[1]; x.Pc != api.PIdle || x.Res.Code != api.OK && x.Res.Code != api.EBLOCK || len(x.Pool.Old) > 4 {
			t.Fatalf("%+v", x)
		}
	}
	if !slices.ContainsFunc(r.tasks[1].Pool.Old, func(o api.Old) bool { return o.Ref == r.tasks[0].Base }) {
		t.Errorf("%+v", r.tasks[1].Pool)
	}
	r.settle()
	r.begin(1, put(8))
	r.settle()
	r.begin(1, put(8))
	r.settle()
	if slices.ContainsFunc(r.tasks[1].Pool.Old, func(o api.Old) bool { return o.Ref == (api.Ref{Tag: 1}) }) {
		t.Errorf("%+v", r.tasks[1].Pool)
	}
}

// All of a thread's nodes are put away, and guarded: its next call comes to ENOMEM, and had no effect.
func TestNoNode_P16_2_P16_3(t *testing.T) {
	c := cells(api.KFifo, 3, 2, 1)
	r := newRun(t, c)
	r.begin(0, put(7))
	r.step(0, 7)
	r.begin(1, put(8))
	r.step(1, r.limit())
	if x := r.tasks[1]; x.Res != (api.Result{Seq: 1}) || len(x.Pool.Old) != 1 || x.Pool.Old[0].Ref != (api.Ref{Tag: 1}) {
		t.Fatalf("%+v", x)
	}
	root := r.m.Peek(0)
	r.begin(1, put(9))
	r.step(1, r.limit())
	if x := r.tasks[1]; x.Pc != api.PIdle || x.Res != (api.Result{Seq: 2, Code: api.ENOMEM}) || r.m.Peek(0) != root {
		t.Errorf("%+v", x)
	}
	// When the other one has gone on, there is a node again.
	r.settle()
	r.begin(1, kind(api.RTake))
	r.settle()
	if x := r.tasks[1]; x.Res != (api.Result{Seq: 3, Value: 8}) {
		t.Errorf("%+v", x)
	}
}

// With one tag a node each node is the root once; then calls come to ETAG.
func TestNoTag_P16_2_P16_3(t *testing.T) {
	c := cells(api.KLifo, 1, 9, 4)
	c.Tags = 1
	r := newRun(t, c)
	for n := range 9 {
		r.begin(0, put(n))
		r.settle()
		want := api.OK
		if n >= 4 {
			want = api.ETAG
		}
		if x := r.tasks[0]; x.Res != (api.Result{Seq: n + 1, Code: want}) {
			t.Errorf("%d: %+v", n, x)
		}
	}
	if len(r.records) != 5 {
		t.Error(len(r.records))
	}
}

// Behind three failures of who announced, its mail says what its call came to.
func TestAskMail_P16_2_P16_3(t *testing.T) {
	c := cells(api.KFifo, 2, 9, 8)
	c.Patience, c.Tags, c.Seqs = 0, api.MaxTags, api.MaxSeqs
	r := newRun(t, c)
	r.begin(0, put(7))
	for range 3 {
		for r.tasks[0].Pc != api.PAskRoot {
			r.once(0)
		}
		r.begin(1, put(8))
		r.step(1, r.limit())
		r.once(0)
	}
	if x := r.tasks[0]; x.Pc != api.PAskMail {
		t.Fatalf("%+v", x)
	}
	r.settle()
	if x := r.tasks[0]; x.Res != (api.Result{Seq: 1}) || r.done[id{0, 1}] != x.Res {
		t.Errorf("%+v", x)
	}
}

// mix lets threads call, step, and stall, as mixed numbers say.
func (r *run) mix(mixed *uint64, picks int) {
	r.t.Helper()
	for range picks {
		n := pick(mixed, r.c.Threads)
		// Each but the last thread stalls for a while where a whole call of others may fall.
		times := 1 + pick(mixed, 6)
		if pick(mixed, 12) == 0 {
			times = pick(mixed, 90)
		}
		if r.tasks[n].Pc == api.PIdle {
			r.begin(n, request(mixed))
		}
		r.step(n, times)
	}
	r.settle()
}

func TestMixed_P16_1_P16_2_P16_3(t *testing.T) {
	var seen [39]int
	codes := map[api.Errno]int{}
	for row := range 120 {
		mixed := uint64(row)
		c := cells(1+row%2, 1+row%4, 1+row%3, 1+row/4%7)
		if row%3 > 0 {
			c = hall(1+row%4, row%3, 1+row/4%7, 1, 0)
		}
		c.Patience, c.Retire, c.Tags, c.Seqs = row%4%3, 1+row%5%3, []int{api.MaxTags, 30, 4}[row%7%3], api.MaxSeqs
		if c.Kind == api.KHall {
			c.Start = []int{row % 2, 0}
			c.Cap = max(c.Cap, 1)
		}
		r := newRun(t, c)
		r.check = row%8 == 0
		r.mix(&mixed, 500)
		for pc, n := range r.seen {
			seen[pc] += n
		}
		for _, d := range r.done {
			codes[d.Code]++
		}
	}
	for pc, n := range seen {
		if pc > 0 && n == 0 {
			t.Errorf("no thread stood at %d", pc)
		}
	}
	for _, e := range []api.Errno{api.OK, api.EHANDLE, api.ECLOSED, api.EBLOCK, api.ECANCEL, api.EPARK} {
		if codes[e] == 0 {
			t.Errorf("no call came to %v", e)
		}
	}
}

// Wherever a thread stalls, all calls of another one end, and its own when it goes on.
func TestAllStall_P16_2_P16_3(t *testing.T) {
	for at := range 150 {
		c := cells(api.KFifo, 2, 2, 6)
		c.Patience, c.Tags, c.Seqs = at%2, api.MaxTags, api.MaxSeqs
		r := newRun(t, c)
		r.begin(0, put(1))
		r.step(0, at)
		for n := range 5 {
			r.begin(1, []api.Request{put(2), kind(api.RTake)}[n%2])
			r.step(1, r.limit())
			if r.tasks[1].Pc != api.PIdle {
				t.Fatalf("%d: %+v", at, r.tasks[1])
			}
		}
		r.settle()
	}
}

// At the edges of a shape a call goes as it does in the middle.
func TestGreatest_P16_2_P16_3(t *testing.T) {
	c := api.Config{Kind: api.KHall, Threads: 64, Chans: 8, Cap: 8, Nodes: 5, Retire: 32, Patience: 4, Tags: api.MaxTags, Seqs: api.MaxSeqs, Gens: api.MaxGens, Start: slices.Repeat([]int{8}, 8)}
	r := newRun(t, c)
	for n := range 64 {
		r.begin(n, sel(send(8+n%8, n), recv(8+(n+1)%8)))
		r.step(n, 2)
	}
	for n := range 3 {
		r.step(63-n, r.limit())
		if r.tasks[63-n].Pc != api.PIdle {
			t.Errorf("%+v", r.tasks[63-n].Res)
		}
	}
}
