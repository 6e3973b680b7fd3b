package task

import (
	"slices"

	"stopgate/api"
	"stopgate/code"
	"stopgate/layout"
	"stopgate/mem"
	"stopgate/object"
	"stopgate/pack"
	"stopgate/pool"
	"stopgate/ref"
)

// mailTries is how often a mail is swapped at most: where two swaps failed, others have put into it what is as new.
const mailTries = 2

// step is a thread's step on its way: the thread itself, the words that it works on, and what it did beside its access.
type step struct {
	api.Task
	c   api.Config
	m   *mem.Mem
	me  int
	out api.Out
}

// canStep tells whether there is such a thread, and whether the words are those of its machine.
func (s *step) canStep() bool {
	total := layout.Total(s.c)
	return total > 0 && s.m.Size() == total && 0 <= s.me && s.me < s.c.Threads
}

// load reads a word; 0, if there is none.
func (s *step) load(addr int) uint64 {
	w, _ := s.m.Load(s.me, addr)
	return w
}

// store writes a word.
func (s *step) store(addr int, w uint64) { s.m.Store(s.me, addr, w) }

// swap writes a word, if what is there is what was wanted; whether it was.
func (s *step) swap(addr int, want, now uint64) bool {
	ok, _ := s.m.Swap(s.me, addr, want, now)
	return ok
}

// loadName reads a word that names a node; zero, if it names none.
func (s *step) loadName(addr int) api.Ref {
	r, _ := ref.Read(s.load(addr))
	return r
}

// loadResult reads a word that says what a call came to.
func (s *step) loadResult(addr int) api.Result { return pack.ReadResult(s.load(addr)) }

// isBase tells whether a root's word is that of the base.
func (s *step) isBase(w uint64) bool { return w == ref.Word(s.Base) }

// isBaseTag tells whether a node's word is the base's tag.
func (s *step) isBaseTag(w uint64) bool { return w == uint64(s.Base.Tag) }

// tagAt is where the tag of a name's node lies, recordAt where its record begins.
func (s *step) tagAt(r api.Ref) int { return layout.Node(s.c, r.Index) }

func (s *step) recordAt(r api.Ref) int { return s.tagAt(r) + 1 }

// done is the result of what a thread's call came to by a record.
func (s *step) done(record []uint64, t int) api.Result {
	return pack.ReadResult(object.Done(s.c, record, t))
}

// wordAt is the word at a place; 0, if there is none: a thread made by hand may lack it.
func wordAt(l []uint64, place int) uint64 {
	if place < 0 || place >= len(l) {
		return 0
	}
	return l[place]
}

// getEpoch reads which epoch there is.
func (s *step) getEpoch() {
	s.Epoch = int(s.load(api.AtGlobal))
	s.Pc = api.PSetEpoch
}

// setEpoch lets others know the epoch that the thread is in, from where on nodes stay that it may come to read.
func (s *step) setEpoch() {
	s.store(layout.Epoch(s.c, s.me), pack.Epoch(s.Epoch))
	s.take()
}

// take sees to a node of the thread's own: if there is none, it looks once whether old ones are free again.
func (s *step) take() {
	var ok bool
	s.Pool, ok = pool.Take(s.Pool, s.c.Tags)
	switch {
	case ok:
		s.Scans = false
		s.round()
	case len(s.Pool.Old) > 0 && !s.Scans:
		s.Scans = true
		s.Pc = api.PGetGlobal
	default:
		s.Res = api.Result{Seq: s.Seq, Code: pool.Why(s.Pool)}
		s.Scans = false
		s.Pc = api.PLeaveEpoch
	}
}

// round begins a try; when there were enough of them, the call is announced, or its mail is asked.
func (s *step) round() {
	switch {
	case !s.Slow && s.Round > s.c.Patience:
		s.Pc = api.PAddPhase
	case s.Slow && s.Round > api.Tries:
		s.Pc = api.PAskMail
	default:
		s.Pc = api.PGetRoot
	}
}

// fail ends a try: the root has changed meanwhile.
func (s *step) fail() {
	s.Round++
	s.Found = nil
	s.round()
}

// goOn goes on where it is so, and else fails.
func (s *step) goOn(so bool, pc int) {
	if so {
		s.Pc = pc
	} else {
		s.fail()
	}
}

// getRoot reads the root's name.
func (s *step) getRoot() {
	s.Base = s.loadName(api.AtRoot)
	s.Pc = api.PSetGuard
}

// setGuard guards the base.
func (s *step) setGuard() {
	s.store(layout.Hazard(s.c, s.me), ref.Word(s.Base))
	s.Pc = api.PAskRoot
}

// askRoot asks whether the base is the root still: then it was so when it was guarded, and stays what it is.
func (s *step) askRoot() { s.goOn(s.isBase(s.load(api.AtRoot)), api.PGetTag) }

// getTag asks whether the base's node is the one that was named.
func (s *step) getTag() {
	if !s.isBaseTag(s.load(s.tagAt(s.Base))) {
		s.fail()
		return
	}
	s.I, s.Buf = 0, nil
	s.Pc = api.PGetRecord
}

// getRecord reads a word of the base's record. Whose call was announced, and is done by it, need not go on.
func (s *step) getRecord() {
	s.Buf = append(s.Buf, s.load(s.recordAt(s.Base)+s.I))
	s.I++
	if s.I != code.Size(s.c) {
		return
	}
	s.I, s.Found = 0, nil
	s.Pc = api.PGetSeq
	if r := s.done(s.Buf, s.me); s.Slow && r.Seq == s.Seq {
		s.Res = r
		s.Pc = api.PDropGuard
	}
}

// getSeq reads the number of the call that a thread announced: a newer one than that which is done is read whole.
func (s *step) getSeq() {
	s.Word = s.load(layout.Seq(s.c, s.I))
	if s.Word > api.MaxSeqs || int(s.Word) <= s.done(s.Buf, s.I).Seq {
		s.nextThread()
		return
	}
	s.J, s.Args = 0, nil
	s.Pc = api.PGetArgs
}

// getArgs reads a word of the call that a thread announced.
func (s *step) getArgs() {
	s.Args = append(s.Args, s.load(layout.Args(s.c, s.I)+s.J))
	s.J++
	if s.J == api.Words {
		s.Pc = api.PAskSeq
	}
}

// askSeq asks whether the call that was read is still the one of that number.
func (s *step) askSeq() {
	same := s.load(layout.Seq(s.c, s.I)) == s.Word
	if q, phase, ok := pack.ReadCall(s.Args); same && ok {
		s.Found = append(s.Found, api.Op{Thread: s.I, Seq: int(s.Word), Phase: phase, Req: q})
	}
	s.nextThread()
}

// nextThread goes on to what the next thread announced; behind the last one to the mails.
func (s *step) nextThread() {
	s.I++
	s.Pc = api.PGetSeq
	if s.I == s.c.Threads {
		s.I, s.Try = 0, 0
		s.Pc = api.PGetMail
	}
}

// getMail reads a thread's mail: one that is older than the base says is brought up to it.
func (s *step) getMail() {
	s.Word = s.load(layout.Mail(s.c, s.I))
	if !pack.Behind(s.Word, object.Done(s.c, s.Buf, s.I)) {
		s.nextMail()
		return
	}
	s.Pc = api.PSwapMail
}

// swapMail brings a thread's mail up to what the base says.
func (s *step) swapMail() {
	ok := s.swap(layout.Mail(s.c, s.I), s.Word, object.Done(s.c, s.Buf, s.I))
	s.Try++
	if ok || s.Try == mailTries {
		s.nextMail()
		return
	}
	s.Pc = api.PGetMail
}

// nextMail goes on to the next thread's mail; behind the last one all calls that were found are done, and the thread's own.
func (s *step) nextMail() {
	s.I++
	s.Try = 0
	s.Pc = api.PGetMail
	if s.I != s.c.Threads {
		return
	}
	s.Found = object.Order(s.Found)
	if !s.Slow {
		s.Found = append(s.Found, api.Op{Thread: s.me, Seq: s.Seq, Req: s.Req})
	}
	s.Next = object.All(s.c, s.Buf, s.Found)
	s.I = 0
	s.Pc = api.PSetTag
}

// setTag writes the tag of the thread's own node.
func (s *step) setTag() {
	s.store(s.tagAt(s.Pool.Own), uint64(s.Pool.Own.Tag))
	s.Pc = api.PSetRecord
}

// setRecord writes a word of the new record into the thread's own node.
func (s *step) setRecord() {
	s.store(s.recordAt(s.Pool.Own)+s.I, wordAt(s.Next, s.I))
	s.I++
	if s.I == len(s.Next) {
		s.Pc = api.PSwapRoot
	}
}

// swapRoot lets the root name the thread's own node: then its calls have had their effect.
func (s *step) swapRoot() {
	if !s.swap(api.AtRoot, ref.Word(s.Base), ref.Word(s.Pool.Own)) {
		s.fail()
		return
	}
	s.out.Won = true
	s.out.Ops = slices.Clone(s.Found)
	s.Won = true
	s.Res = s.done(s.Next, s.me)
	s.Pool = pool.Leave(s.Pool)
	s.Pc = api.PDropGuard
}

// addPhase draws the phase with which the call is announced.
func (s *step) addPhase() {
	phase, _ := s.m.Add(s.me, api.AtPhase, 1)
	s.Args = pack.Call(s.Req, int(phase&api.MaxValue))
	s.J = 0
	s.Pc = api.PSetArgs
}

// setArgs writes a word of the call.
func (s *step) setArgs() {
	s.store(layout.Args(s.c, s.me)+s.J, wordAt(s.Args, s.J))
	s.J++
	if s.J == api.Words {
		s.Pc = api.PSetSeq
	}
}

// setSeq writes the call's number: it is announced.
func (s *step) setSeq() {
	s.store(layout.Seq(s.c, s.me), uint64(s.Seq))
	s.Slow, s.Round = true, 1
	s.Pc = api.PGetRoot
}

// askMail asks what the call came to: the root has changed so often since it was announced that its mail says it.
func (s *step) askMail() {
	s.Res = s.loadResult(layout.Mail(s.c, s.me))
	s.Pc = api.PDropGuard
}

// dropGuard guards nothing any more.
func (s *step) dropGuard() {
	s.store(layout.Hazard(s.c, s.me), 0)
	s.Try = 0
	s.Pc = api.PGetOwn
	if s.Won {
		s.Pc = api.PGetStamp
	}
}

// getStamp puts the old root's node away, which is the thread's now.
func (s *step) getStamp() {
	s.Pool = pool.Away(s.Pool, s.Base, int(s.load(api.AtGlobal)))
	s.Pc = api.PGetOwn
}
