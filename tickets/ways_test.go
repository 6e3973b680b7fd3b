package tickets_test

import (
	"slices"
	"testing"

	"stopgate/api"
	"stopgate/tickets"
)

// pick is a mixed number below n.
func pick(mixed *uint64, n int) int {
	*mixed = *mixed*6364136223846793005 + 1442695040888963407
	return int(*mixed >> 33 % uint64(n))
}

// span is a call of a history: where it begins, where it ends (behind all, if it does not), and what came of it.
type span struct {
	put        bool
	value      int
	begin, end int
	ended, ok  bool
}

// spans is the calls of a history, each with its value, a taker's as far as it got one.
func spans(notes []api.Note) []span {
	var l []span
	now := map[int]int{}
	for at, n := range notes {
		if n.Kind == api.NCall {
			now[n.Thread] = len(l)
			l = append(l, span{put: n.Req.Kind == api.RPut, value: n.Req.Value, begin: at, end: len(notes)})
			continue
		}
		s := &l[now[n.Thread]]
		s.end, s.ended, s.ok = at, true, n.Result.Code == api.OK
		if !s.put {
			s.value = n.Result.Value
		}
	}
	return l
}

// wrong is what a history, all of whose puts have values of their own, and what is left in the end say against the promise; "": nothing.
func wrong(notes []api.Note, left []int) string {
	l := spans(notes)
	puts, takes := map[int]span{}, map[int]span{}
	open := false
	for _, s := range l {
		open = open || !s.ended
		if s.put {
			puts[s.value] = s
		}
	}
	for _, s := range l {
		if s.put || !s.ok {
			continue
		}
		if _, twice := takes[s.value]; twice {
			return "taken twice"
		}
		if p, ok := puts[s.value]; !ok || p.begin > s.end {
			return "taken, and not put"
		}
		takes[s.value] = s
	}
	for value, p := range puts {
		_, taken := takes[value]
		if p.ok && !open && taken == slices.Contains(left, value) {
			return "neither taken nor left, or both"
		}
		if p.ended && !p.ok && (taken || slices.Contains(left, value)) {
			return "put in vain, and there"
		}
	}
	for _, a := range puts {
		for _, b := range puts {
			second, taken := takes[b.value]
			if !a.ok || a.end > b.begin || !taken {
				continue
			}
			if first, too := takes[a.value]; slices.Contains(left, a.value) || too && second.end < first.begin {
				return "passed"
			}
		}
	}
	return ""
}

// plan is the calls of a thread, one behind the other: a value to put, or below 0 to take.
type plan []int

// world is a queue that threads go through by picks, each from its first call on.
type world struct {
	size, tries int
	plans       []plan
}

// run is what a row of picks leads to; a thread that is picked while it does nothing begins its next call.
func (w world) run(picks []int) *tickets.Queue {
	q := queue(w.size, len(w.plans), w.tries)
	next := make([]int, len(w.plans))
	steps := make([]int, len(w.plans))
	for _, t := range picks {
		if q.Thread(t).Pc != api.QIdle {
			q.Pick(t)
			if steps[t]++; steps[t] > q.Limit() || steps[t] == q.Limit() && q.Thread(t).Pc != api.QIdle {
				panic("a call takes too long")
			}
			continue
		}
		if steps[t] = 0; next[t] == len(w.plans[t]) {
			continue
		}
		if v := w.plans[t][next[t]]; v < 0 {
			q.Take(t)
		} else {
			q.Put(t, v)
		}
		next[t]++
	}
	return q
}

// over tells whether a thread has nothing to do any more.
func (w world) over(q *tickets.Queue, t int) bool {
	begun := 0
	for _, n := range q.Notes() {
		if n.Kind == api.NCall && n.Thread == t {
			begun++
		}
	}
	return q.Thread(t).Pc == api.QIdle && begun == len(w.plans[t])
}

// all goes all ways there are, and is how many.
func (w world) all(t *testing.T, picks []int) int {
	q := w.run(picks)
	if s := wrong(q.Notes(), q.Left()); s != "" {
		t.Fatalf("%v: %s: %+v, left %v", picks, s, q.Notes(), q.Left())
	}
	ways := 0
	for thread := range w.plans {
		if !w.over(q, thread) {
			ways += w.all(t, append(slices.Clone(picks), thread))
		}
	}
	return max(ways, 1)
}

func TestAllWays_P41_5_P41_6(t *testing.T) {
	for _, w := range []world{
		{3, 2, []plan{{5}, {-1}}},
		{2, 2, []plan{{5, 6}, {-1}}},
		{3, 2, []plan{{5, 6}, {-1, -1}}},
		{2, 1, []plan{{5}, {6}, {-1}}},
		{2, 1, []plan{{5}, {-1}, {-1}}},
	} {
		if n := w.all(t, nil); n < 30 {
			t.Errorf("%+v: %d ways alone", w, n)
		}
	}
}

func TestMixedWays_P41_5_P41_6(t *testing.T) {
	seen := map[api.Errno]int{}
	for row := range 600 {
		mixed := uint64(row)
		w := world{size: 1 + pick(&mixed, 40), tries: 1 + pick(&mixed, 4)}
		for range 1 + pick(&mixed, 6) {
			var p plan
			for range pick(&mixed, 9) {
				if pick(&mixed, 2) == 0 {
					p = append(p, 100*len(w.plans)+len(p))
				} else {
					p = append(p, -1)
				}
			}
			w.plans = append(w.plans, p)
		}
		var picks []int
		for len(picks) < 600 {
			t := pick(&mixed, len(w.plans))
			for range 1 + pick(&mixed, 3) {
				picks = append(picks, t)
			}
		}
		q := w.run(picks)
		for n := range 10 {
			part := w.run(picks[:60*n])
			if s := wrong(part.Notes(), part.Left()); s != "" {
				t.Fatalf("row %d: %s: %+v, left %v", row, s, part.Notes(), part.Left())
			}
		}
		if s := wrong(q.Notes(), q.Left()); s != "" {
			t.Fatalf("row %d: %s: %+v, left %v", row, s, q.Notes(), q.Left())
		}
		for _, n := range q.Notes() {
			if n.Kind == api.NReturn {
				seen[n.Result.Code]++
			}
		}
	}
	for _, e := range []api.Errno{api.OK, api.EBLOCK, api.ENOMEM} {
		if seen[e] < 100 {
			t.Error(seen)
		}
	}
}

// The check itself finds what breaks the promise.
func TestWrongIsFound_P41_6(t *testing.T) {
	put := func(thread, seq, v int) []api.Note {
		return []api.Note{call(thread, seq, 0, api.RPut, v), back(thread, seq, 0, api.RPut, v, api.OK, 0)}
	}
	take := func(thread, seq, v int) []api.Note {
		return []api.Note{call(thread, seq, 0, api.RTake, 0), back(thread, seq, 0, api.RTake, 0, api.OK, v)}
	}
	for what, c := range map[string]struct {
		l    [][]api.Note
		left []int
	}{
		"taken twice":                     {[][]api.Note{put(0, 1, 5), take(1, 1, 5), take(1, 2, 5)}, nil},
		"taken, and not put":              {[][]api.Note{take(1, 1, 5)}, nil},
		"neither taken nor left, or both": {[][]api.Note{put(0, 1, 5)}, nil},
		"passed":                          {[][]api.Note{put(0, 1, 5), put(0, 2, 6), take(1, 1, 6), take(1, 2, 5)}, nil},
	} {
		if got := wrong(slices.Concat(c.l...), c.left); got != what {
			t.Errorf("%s: %q", what, got)
		}
	}
	if got := wrong(slices.Concat(put(0, 1, 5), put(0, 2, 6), take(1, 1, 5)), []int{6}); got != "" {
		t.Error(got)
	}
}
