package tickets_test

import (
	"fmt"
	"math"
	"slices"
	"testing"

	"stopgate/api"
	"stopgate/tickets"
)

// queue is a queue of a size that may be.
func queue(size, threads, tries int) *tickets.Queue {
	q, _ := tickets.New(size, threads, tries)
	return q
}

// picks lets threads do steps, one by one.
func picks(q *tickets.Queue, l ...int) {
	for _, t := range l {
		q.Pick(t)
	}
}

// text tells all that a queue answers.
func text(q *tickets.Queue, threads int) string {
	men := []api.Cellman{}
	for t := range threads {
		men = append(men, q.Thread(t))
	}
	return fmt.Sprintf("%+v %+v %v %v %v", men, q.Notes(), q.Words(), q.Left(), q.Limit())
}

// call is a note of a call's begin, or of its end.
func call(thread, seq, time, kind, value int) api.Note {
	return api.Note{Kind: api.NCall, Thread: thread, Seq: seq, Time: time, Req: api.Request{Kind: kind, Value: value}}
}

func back(thread, seq, time, kind, value int, code api.Errno, got int) api.Note {
	n := call(thread, seq, time, kind, value)
	n.Kind, n.Result = api.NReturn, api.Result{Seq: seq, Code: code, Value: got}
	return n
}

func same(a, b []api.Note) bool { return fmt.Sprintf("%+v", a) == fmt.Sprintf("%+v", b) }

func TestExample_P41_3(t *testing.T) {
	q := queue(4, 2, 3)
	q.Take(0)
	q.Put(1, 7)
	picks(q, 0, 0, 0, 1, 1, 1, 1)
	want := []api.Note{
		call(0, 1, 1, api.RTake, 0), call(1, 1, 2, api.RPut, 7),
		back(0, 1, 5, api.RTake, 0, api.EBLOCK, 0), back(1, 1, 9, api.RPut, 7, api.OK, 0),
	}
	if !same(q.Notes(), want) || !slices.Equal(q.Words(), []uint64{1, 2, 1, 9, 0, 0}) || !slices.Equal(q.Left(), []int{7}) {
		t.Error(q.Notes(), q.Words(), q.Left())
	}
}

func TestNew_P41_1(t *testing.T) {
	for _, c := range []struct {
		size, threads, tries int
		e                    api.Errno
	}{
		{1, 1, 1, api.OK}, {4096, 64, 64, api.OK}, {4096, 1, 1, api.OK}, {1, 64, 1, api.OK}, {1, 1, 64, api.OK}, {7, 3, 5, api.OK},
		{0, 1, 1, api.EARG}, {1, 0, 1, api.EARG}, {1, 1, 0, api.EARG}, {-1, 1, 1, api.EARG}, {1, -1, 1, api.EARG}, {1, 1, -1, api.EARG},
		{4097, 1, 1, api.EARG}, {1, 65, 1, api.EARG}, {1, 1, 65, api.EARG},
		{math.MaxInt, 1, 1, api.EARG}, {1, math.MaxInt, 1, api.EARG}, {1, 1, math.MaxInt, api.EARG},
		{math.MinInt, 1, 1, api.EARG}, {1, math.MinInt, 1, api.EARG}, {1, 1, math.MinInt, api.EARG},
	} {
		q, e := tickets.New(c.size, c.threads, c.tries)
		if e != c.e || (q != nil) != (e == api.OK) {
			t.Errorf("New(%d, %d, %d) = %v, %v", c.size, c.threads, c.tries, q, e)
		}
		if q == nil {
			continue
		}
		if got := q.Words(); !slices.Equal(got, make([]uint64, c.size+2)) {
			t.Errorf("New(%d, %d, %d) has words %v", c.size, c.threads, c.tries, got)
		}
		if q.Take(c.threads-1) != api.OK || q.Take(c.threads) != api.EARG || len(q.Notes()) != 1 || len(q.Left()) != 0 {
			t.Errorf("New(%d, %d, %d) has other threads", c.size, c.threads, c.tries)
		}
	}
}

func TestBegin_P41_2(t *testing.T) {
	q := queue(4, 3, 2)
	if q.Put(1, 7) != api.OK || q.Take(2) != api.OK || q.Put(0, 0) != api.OK {
		t.Fatal(q.Notes())
	}
	for thread, want := range []api.Cellman{{Pc: api.QPutTicket, Seq: 1}, {Pc: api.QPutTicket, Seq: 1, Value: 7}, {Pc: api.QTakeTicket, Seq: 1}} {
		if got := q.Thread(thread); got != want {
			t.Errorf("%d: %+v", thread, got)
		}
	}
	if want := []api.Note{call(1, 1, 1, api.RPut, 7), call(2, 1, 2, api.RTake, 0), call(0, 1, 3, api.RPut, 0)}; !same(q.Notes(), want) {
		t.Errorf("%+v", q.Notes())
	}
	if got := q.Words(); !slices.Equal(got, make([]uint64, 6)) {
		t.Error(got)
	}
	// The next call of a thread has the next number, and nothing of the one ahead.
	picks(q, 1, 1, 2, 2, 2)
	if q.Take(1) != api.OK || q.Put(2, 9) != api.OK {
		t.Fatal(q.Notes())
	}
	if a, b := q.Thread(1), q.Thread(2); a != (api.Cellman{Pc: api.QTakeTicket, Seq: 2}) || b != (api.Cellman{Pc: api.QPutTicket, Seq: 2, Value: 9}) {
		t.Error(a, b)
	}
	if l := q.Notes(); len(l) != 7 || !same(l[5:], []api.Note{call(1, 2, 9, api.RTake, 0), call(2, 2, 10, api.RPut, 9)}) {
		t.Errorf("%+v", l)
	}
}

func TestBeginWrong_P41_2(t *testing.T) {
	q := queue(4, 2, 2)
	q.Take(1)
	before := text(q, 2)
	for _, c := range []struct {
		t, value int
		put      api.Errno
		take     api.Errno
	}{
		{2, 1, api.EARG, api.EARG}, {-1, 1, api.EARG, api.EARG}, {math.MaxInt, 1, api.EARG, api.EARG}, {math.MinInt, 1, api.EARG, api.EARG},
		{1, 1, api.EBUSY, api.EBUSY}, {1, -1, api.EARG, api.EBUSY}, {1, api.MaxValue + 1, api.EARG, api.EBUSY},
	} {
		if e := q.Put(c.t, c.value); e != c.put {
			t.Errorf("Put(%d, %d) = %v", c.t, c.value, e)
		}
		if e := q.Take(c.t); e != c.take {
			t.Errorf("Take(%d) = %v", c.t, e)
		}
	}
	for _, value := range []int{-1, math.MinInt, api.MaxValue + 1, math.MaxInt} {
		if e := q.Put(0, value); e != api.EARG {
			t.Errorf("Put(0, %d) = %v", value, e)
		}
	}
	if got := text(q, 2); got != before {
		t.Errorf("changed: %s", got)
	}
	if e := q.Put(0, api.MaxValue); e != api.OK || q.Notes()[1].Time != 2 {
		t.Error(e, q.Notes())
	}
	picks(q, 0, 0)
	if got := q.Left(); !slices.Equal(got, []int{api.MaxValue}) {
		t.Error(got)
	}
}

// A thread that stands at any step can't begin another call, and is as it was.
func TestBusyAtEachStep_P41_2(t *testing.T) {
	seen := map[int]bool{}
	for _, way := range [][]int{{0, 0, 0, 1, 1, 1, 1}, {1, 1, 0, 0, 0}} {
		q := queue(4, 2, 3)
		q.Take(0)
		q.Put(1, 7)
		for _, who := range way {
			for thread := range 2 {
				x := q.Thread(thread)
				seen[x.Pc] = true
				if x.Pc != api.QIdle && (q.Take(thread) != api.EBUSY || q.Put(thread, 1) != api.EBUSY || q.Thread(thread) != x) {
					t.Errorf("%+v", x)
				}
			}
			q.Pick(who)
		}
	}
	if len(seen) != 7 {
		t.Error(seen)
	}
}

// The last number of a call is 2^20 - 1.
func TestLastNumber_P41_2(t *testing.T) {
	q := queue(1, 2, 1)
	picks(q, 0)
	for n := range api.MaxSeqs {
		if q.Take(0) != api.OK {
			t.Fatal(n)
		}
		for q.Thread(0).Pc != api.QIdle {
			q.Pick(0)
		}
	}
	x := q.Thread(0)
	if x != (api.Cellman{Seq: api.MaxSeqs}) || q.Take(0) != api.EBUSY || q.Put(0, 1) != api.EBUSY || q.Put(0, -1) != api.EARG {
		t.Error(x)
	}
	if q.Take(1) != api.OK || q.Thread(0) != x {
		t.Error(q.Thread(0))
	}
}

func TestPickWrong_P41_3(t *testing.T) {
	q := queue(4, 2, 2)
	q.Take(1)
	before := text(q, 2)
	for _, thread := range []int{2, -1, 64, math.MaxInt, math.MinInt} {
		if e := q.Pick(thread); e != api.EARG {
			t.Errorf("Pick(%d) = %v", thread, e)
		}
	}
	if got := text(q, 2); got != before {
		t.Errorf("changed: %s", got)
	}
	// Of a thread that does nothing time goes on, and that is all.
	if e := q.Pick(0); e != api.OK || text(q, 2) != before {
		t.Error(e, text(q, 2))
	}
	if q.Put(0, 3); q.Notes()[1].Time != 3 {
		t.Error(q.Notes())
	}
}

// step is a pick, and where its thread stands then, and what the words are.
type step struct {
	thread int
	man    api.Cellman
	words  []uint64
}

func walk(t *testing.T, q *tickets.Queue, l []step) {
	t.Helper()
	for n, s := range l {
		if e := q.Pick(s.thread); e != api.OK || q.Thread(s.thread) != s.man || !slices.Equal(q.Words(), s.words) {
			t.Fatalf("step %d of thread %d: %v, %+v, %v", n, s.thread, e, q.Thread(s.thread), q.Words())
		}
	}
}

func TestPutStepByStep_P41_3(t *testing.T) {
	q := queue(3, 2, 2)
	q.Put(0, 5)
	q.Put(1, 0)
	walk(t, q, []step{
		{0, api.Cellman{Pc: api.QPutCell, Seq: 1, Value: 5}, []uint64{0, 1, 0, 0, 0}},
		{1, api.Cellman{Pc: api.QPutCell, Seq: 1, At: 1}, []uint64{0, 2, 0, 0, 0}},
		{1, api.Cellman{Seq: 1}, []uint64{0, 2, 0, 2, 0}},
		{0, api.Cellman{Seq: 1}, []uint64{0, 2, 7, 2, 0}},
		{0, api.Cellman{Seq: 1}, []uint64{0, 2, 7, 2, 0}},
	})
	if l := q.Notes(); !same(l[2:], []api.Note{back(1, 1, 5, api.RPut, 0, api.OK, 0), back(0, 1, 6, api.RPut, 5, api.OK, 0)}) {
		t.Errorf("%+v", l)
	}
}

func TestTakeStepByStep_P41_3(t *testing.T) {
	q := queue(3, 2, 2)
	q.Put(0, 5)
	q.Take(1)
	walk(t, q, []step{
		{0, api.Cellman{Pc: api.QPutCell, Seq: 1, Value: 5}, []uint64{0, 1, 0, 0, 0}},
		{1, api.Cellman{Pc: api.QTakeCell, Seq: 1}, []uint64{1, 1, 0, 0, 0}},
		{0, api.Cellman{Seq: 1}, []uint64{1, 1, 7, 0, 0}},
		{1, api.Cellman{Pc: api.QTakeValue, Seq: 1}, []uint64{1, 1, 7, 0, 0}},
		{1, api.Cellman{Seq: 1}, []uint64{1, 1, 7, 0, 0}},
	})
	if l := q.Notes(); !same(l[2:], []api.Note{back(0, 1, 5, api.RPut, 5, api.OK, 0), back(1, 1, 7, api.RTake, 0, api.OK, 5)}) {
		t.Errorf("%+v", l)
	}
	// A value of 0 is one.
	q.Put(0, 0)
	q.Take(1)
	picks(q, 0, 0, 1, 1)
	if q.Thread(1).Pc != api.QTakeValue {
		t.Error(q.Thread(1))
	}
	if picks(q, 1); q.Notes()[7].Result != (api.Result{Seq: 2}) {
		t.Errorf("%+v", q.Notes())
	}
}

// A taker that is there ahead lets a putter try again, and is told that there is nothing, or tries again itself.
func TestAgain_P41_3(t *testing.T) {
	q := queue(4, 2, 2)
	q.Put(0, 5)
	q.Take(1)
	walk(t, q, []step{
		{0, api.Cellman{Pc: api.QPutCell, Seq: 1, Value: 5}, []uint64{0, 1, 0, 0, 0, 0}},
		{1, api.Cellman{Pc: api.QTakeCell, Seq: 1}, []uint64{1, 1, 0, 0, 0, 0}},
		{1, api.Cellman{Pc: api.QTakeTail, Seq: 1}, []uint64{1, 1, 1, 0, 0, 0}},
		{0, api.Cellman{Pc: api.QPutTicket, Seq: 1, Value: 5, Try: 1}, []uint64{1, 1, 1, 0, 0, 0}},
		{0, api.Cellman{Pc: api.QPutCell, Seq: 1, Value: 5, Try: 1, At: 1}, []uint64{1, 2, 1, 0, 0, 0}},
		{1, api.Cellman{Pc: api.QTakeTicket, Seq: 1, Try: 1}, []uint64{1, 2, 1, 0, 0, 0}},
		{1, api.Cellman{Pc: api.QTakeCell, Seq: 1, Try: 1, At: 1}, []uint64{2, 2, 1, 0, 0, 0}},
		{1, api.Cellman{Pc: api.QTakeTail, Seq: 1, Try: 1, At: 1}, []uint64{2, 2, 1, 1, 0, 0}},
		{0, api.Cellman{Seq: 1}, []uint64{2, 2, 1, 1, 0, 0}},
		{1, api.Cellman{Seq: 1}, []uint64{2, 2, 1, 1, 0, 0}},
	})
	if l := q.Notes(); !same(l[2:], []api.Note{back(0, 1, 11, api.RPut, 5, api.ENOMEM, 0), back(1, 1, 12, api.RTake, 0, api.EBLOCK, 0)}) {
		t.Errorf("%+v", l)
	}
}

// A place that is kept from try to try is that of the last ticket.
func TestAgainKeepsTheRest_P41_3(t *testing.T) {
	q := queue(4, 3, 3)
	q.Take(0)
	q.Take(2)
	q.Put(1, 5)
	picks(q, 2, 0, 0, 1, 1, 1, 1) // takers have tickets 0 and 1, the putter draws 0, puts there; 1 is a taker's
	if q.Thread(1) != (api.Cellman{Seq: 1}) {
		t.Fatal(q.Thread(1))
	}
	q.Put(1, 6)
	picks(q, 1, 1)
	if got := q.Thread(1); got != (api.Cellman{Pc: api.QPutTicket, Seq: 2, Value: 6, At: 1, Try: 1}) {
		t.Errorf("%+v", got)
	}
	picks(q, 1, 0)
	if got := q.Thread(0); got != (api.Cellman{Pc: api.QTakeTicket, Seq: 1, At: 1, Try: 1}) {
		t.Errorf("%+v", got)
	}
}

// The tail is at the taker's ticket, at the one behind it, or beyond.
func TestTail_P41_3(t *testing.T) {
	for putters, code := range []api.Errno{api.EBLOCK, api.EBLOCK, api.EPARK, api.EPARK} {
		q := queue(6, 5, 2)
		q.Take(0)
		for n := range putters {
			q.Put(1+n, n)
			q.Pick(1 + n)
		}
		picks(q, 0, 0, 0)
		again := q.Thread(0) == api.Cellman{Pc: api.QTakeTicket, Seq: 1, Try: 1}
		if again != (code == api.EPARK) || !again && q.Notes()[1+putters].Result != (api.Result{Seq: 1, Code: code}) {
			t.Errorf("%d: %+v, %+v", putters, q.Thread(0), q.Notes())
		}
	}
	// At a later ticket.
	q := queue(6, 3, 1)
	for range 2 {
		q.Take(0)
		picks(q, 0, 0, 0)
	}
	q.Put(1, 1)
	picks(q, 1, 1)
	q.Take(0)
	picks(q, 0, 0)
	q.Put(2, 2)
	picks(q, 2, 2)
	if picks(q, 0); q.Notes()[len(q.Notes())-1].Result.Code != api.EBLOCK || q.Words()[1] != 2 {
		t.Errorf("%+v, %v", q.Notes(), q.Words())
	}
}

// A ticket that has no cell ends the call, at whatever try it stands.
func TestNoCell_P41_3(t *testing.T) {
	q := queue(2, 2, 64)
	for n := range 3 {
		q.Put(0, n)
		picks(q, 0, 0)
	}
	for range 3 {
		q.Take(1)
		picks(q, 1, 1, 1)
	}
	var codes []api.Errno
	for _, x := range q.Notes() {
		if x.Kind == api.NReturn {
			codes = append(codes, x.Result.Code)
		}
	}
	if fmt.Sprint(codes) != fmt.Sprint([]api.Errno{0, 0, api.ENOMEM, 0, 0, api.ENOMEM}) || !slices.Equal(q.Words(), []uint64{3, 3, 2, 3}) || len(q.Left()) != 0 {
		t.Error(codes, q.Words(), q.Left())
	}
	q = queue(1, 2, 64)
	q.Put(0, 9)
	q.Take(1)
	picks(q, 0, 1, 1, 0, 0) // the taker spoils the one cell; the putter's next ticket has none
	if q.Thread(0) != (api.Cellman{Seq: 1}) || !same(q.Notes()[2:], []api.Note{back(0, 1, 7, api.RPut, 9, api.ENOMEM, 0)}) {
		t.Errorf("%+v, %+v", q.Thread(0), q.Notes())
	}
	if picks(q, 1); q.Thread(1).Pc != api.QTakeTicket {
		t.Errorf("%+v", q.Thread(1))
	}
	if picks(q, 1); !same(q.Notes()[3:], []api.Note{back(1, 1, 9, api.RTake, 0, api.ENOMEM, 0)}) {
		t.Errorf("%+v", q.Notes())
	}
}

// With n tries the n-th that is in vain ends the call.
func TestTries_P41_3(t *testing.T) {
	for _, tries := range []int{1, 2, 5, 64} {
		q := queue(4096, 2, tries)
		q.Put(0, 3)
		for n := range tries {
			if got := q.Thread(0).Try; got != n {
				t.Fatal(tries, n, got)
			}
			q.Pick(0)
			for q.Words()[0] < q.Words()[1] { // a taker spoils each cell that the putter has a ticket for
				q.Take(1)
				for q.Thread(1).Pc != api.QIdle {
					q.Pick(1)
				}
			}
			q.Pick(0)
		}
		l := q.Notes()
		if n := len(l) - 1; q.Thread(0) != (api.Cellman{Seq: 1}) || l[n].Thread != 0 || l[n].Result != (api.Result{Seq: 1, Code: api.ENOMEM}) {
			t.Errorf("%d: %+v, %+v", tries, q.Thread(0), l[n])
		}
	}
}

func TestThreadWords_P41_4(t *testing.T) {
	q := queue(3, 2, 1)
	q.Put(0, 4)
	for _, thread := range []int{-1, 2, math.MaxInt, math.MinInt} {
		if got := q.Thread(thread); got != (api.Cellman{}) {
			t.Errorf("%d: %+v", thread, got)
		}
	}
	if got := q.Thread(0); got != (api.Cellman{Pc: api.QPutTicket, Seq: 1, Value: 4}) {
		t.Errorf("%+v", got)
	}
	if got := q.Words(); !slices.Equal(got, make([]uint64, 5)) {
		t.Error(got)
	}
}

func TestLeft_P41_4(t *testing.T) {
	q := queue(4, 5, 1)
	left := func(want ...int) {
		t.Helper()
		if got := q.Left(); !slices.Equal(got, want) {
			t.Error(got)
		}
	}
	left()
	for n := range 3 {
		q.Put(n, 9-n)
	}
	picks(q, 0, 1, 2, 2)
	left(7)
	picks(q, 1)
	left(8, 7)
	q.Take(3)
	left(8, 7)
	picks(q, 3)
	left(8, 7) // the taker's ticket is that of a cell that is empty yet
	picks(q, 0)
	left(8, 7) // and whatever comes there is the taker's
	q.Take(4)
	picks(q, 4)
	left(7)
	picks(q, 4, 4, 3, 3)
	left(7)
	for range 3 {
		q.Take(3)
		picks(q, 3, 3, 3)
	}
	left()
	if w := q.Words(); w[0] != 5 {
		t.Error(w)
	}
}

func TestLimit_P41_4(t *testing.T) {
	for _, tries := range []int{1, 2, 7, 64} {
		if got := queue(4, 2, tries).Limit(); got != 3*tries {
			t.Error(tries, got)
		}
	}
}

func TestNilQueue_P41_2_P41_3_P41_4(t *testing.T) {
	for _, q := range []*tickets.Queue{nil, {}} {
		for _, thread := range []int{0, -1, math.MaxInt} {
			if a, b, c := q.Put(thread, 1), q.Take(thread), q.Pick(thread); a != api.ENIL || b != api.ENIL || c != api.ENIL || q.Put(thread, -1) != api.ENIL {
				t.Error(a, b, c)
			}
			if got := q.Thread(thread); got != (api.Cellman{}) {
				t.Error(got)
			}
		}
		if len(q.Notes()) != 0 || len(q.Words()) != 0 || q.Limit() != 0 || len(q.Left()) != 0 {
			t.Error(text(q, 1))
		}
	}
}

func TestNewMemory_P41_4(t *testing.T) {
	q := queue(3, 2, 2)
	q.Put(0, 4)
	q.Take(1)
	picks(q, 0, 0)
	before := text(q, 2)
	notes, words, left := q.Notes(), q.Words(), q.Left()
	for i := range notes[:cap(notes)] {
		notes[:cap(notes)][i] = api.Note{Seq: -9}
	}
	for i := range words[:cap(words)] {
		words[:cap(words)][i] = 99
	}
	for i := range left[:cap(left)] {
		left[:cap(left)][i] = 99
	}
	if got := text(q, 2); got != before {
		t.Error(got)
	}
	other := queue(3, 2, 2)
	if got := text(other, 2); got != text(queue(3, 2, 2), 2) {
		t.Error(got)
	}
}
