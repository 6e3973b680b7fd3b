// Package pack is layer 2: see ../../shared/doc/02-pack.md.
package pack

import (
	"slices"

	"stopgate/api"
)

// Where the parts of a result's word begin, and what each may be at most.
const (
	codeAt  = 32
	caseAt  = 40
	seqAt   = 44
	maxCode = 1<<(caseAt-codeAt) - 1
	maxCase = 1<<(seqAt-caseAt) - 1
)

// Where the parts of a call's words begin, and what they may be at most.
const (
	countAt   = 8
	defaultAt = 12
	argAt     = 16
	handleAt  = 8
	valueAt   = 32
	maxKind   = api.RTake
	maxShort  = 1<<16 - 1
	maxCount  = 1<<(defaultAt-countAt) - 1
)

// within tells whether a number is one of 0 to a last one.
func within(n, last int) bool { return 0 <= n && n <= last }

// Good tells whether a result may be.
func Good(r api.Result) bool {
	return within(r.Value, api.MaxValue) && within(int(r.Code), maxCode) && within(r.Case, maxCase) && within(r.Seq, api.MaxSeqs)
}

// Result is a result as a word; 0 of one that may not be.
func Result(r api.Result) uint64 {
	if !Good(r) {
		return 0
	}
	return uint64(r.Value) | uint64(r.Code)<<codeAt | uint64(r.Case)<<caseAt | uint64(r.Seq)<<seqAt
}

// ReadResult is the result of a word.
func ReadResult(w uint64) api.Result {
	return api.Result{
		Seq:   int(w >> seqAt),
		Case:  int(w >> caseAt & maxCase),
		Code:  api.Errno(w >> codeAt & maxCode),
		Value: int(w & api.MaxValue),
	}
}

// Final tells whether a call that came to this does not wait.
func Final(r api.Result) bool { return r.Code != api.EPARK }

// Rank is how far a thread's calls are by a result: twice its number, and one if it does not wait.
func Rank(r api.Result) int {
	if Final(r) {
		return 2*r.Seq + 1
	}
	return 2 * r.Seq
}

// Behind tells whether one result's word is older than another one's.
func Behind(a, b uint64) bool { return Rank(ReadResult(a)) < Rank(ReadResult(b)) }

// Fits tells whether a call may be announced.
func Fits(q api.Request) bool {
	if q.Kind < api.RMake || q.Kind > maxKind || !within(q.Arg, maxShort) || !within(q.Value, api.MaxValue) {
		return false
	}
	return len(q.Cases) <= api.MaxCases && !slices.ContainsFunc(q.Cases, func(c api.Case) bool { return !fitsCase(c) })
}

// fitsCase tells whether a case may be one of a call that is announced.
func fitsCase(c api.Case) bool {
	return (c.Dir == api.Send || c.Dir == api.Recv) && within(c.Handle, maxShort) && within(c.Value, api.MaxValue)
}

// Call is a call as words, its phase the last one; none of one that may not be.
func Call(q api.Request, phase int) []uint64 {
	if !Fits(q) || !within(phase, api.MaxValue) {
		return nil
	}
	l := make([]uint64, api.Words)
	l[0] = uint64(q.Kind) | uint64(len(q.Cases))<<countAt | uint64(q.Arg)<<argAt | uint64(q.Value)<<valueAt
	if q.Default {
		l[0] |= 1 << defaultAt
	}
	for i, c := range q.Cases {
		l[1+i] = uint64(c.Dir) | uint64(c.Handle)<<handleAt | uint64(c.Value)<<valueAt
	}
	l[api.Words-1] = uint64(phase)
	return l
}

// ReadCall is the call, and the phase, of words; false: they are none.
func ReadCall(l []uint64) (api.Request, int, bool) {
	if len(l) != api.Words {
		return api.Request{}, 0, false
	}
	q := api.Request{
		Kind:    int(l[0] & (1<<countAt - 1)),
		Arg:     int(l[0] >> argAt & maxShort),
		Value:   int(l[0] >> valueAt),
		Default: l[0]>>defaultAt&1 == 1,
		Cases:   readCases(l[1:api.Words-1], int(l[0]>>countAt&maxCount)),
	}
	phase := int(l[api.Words-1])
	// Packed again it must be these words: so no bit is set that belongs to no part.
	if !slices.Equal(Call(q, phase), l) {
		return api.Request{}, 0, false
	}
	return q, phase, true
}

// readCases is so many cases of words, as many at most as there are words.
func readCases(l []uint64, n int) []api.Case {
	var cases []api.Case
	for i := range min(n, len(l)) {
		cases = append(cases, api.Case{
			Dir:    int(l[i] & (1<<handleAt - 1)),
			Handle: int(l[i] >> handleAt & maxShort),
			Value:  int(l[i] >> valueAt),
		})
	}
	return cases
}

// Epoch is a thread's epoch as a word: it is in a call.
func Epoch(g int) uint64 { return uint64(2*g + 1) }

// Lets tells whether a thread whose word this is lets an epoch end.
func Lets(w uint64, g int) bool { return w == 0 || w == Epoch(g) }
