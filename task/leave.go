package task

import (
	"stopgate/api"
	"stopgate/code"
	"stopgate/layout"
	"stopgate/pack"
	"stopgate/ref"
	"stopgate/retire"
)

// getOwn reads the thread's own mail, which must not be older than what it was told.
func (s *step) getOwn() {
	s.Word = s.load(layout.Mail(s.c, s.me))
	if !pack.Behind(s.Word, pack.Result(s.Res)) {
		s.owned()
		return
	}
	s.Pc = api.PSwapOwn
}

// swapOwn brings the thread's own mail up to what it was told.
func (s *step) swapOwn() {
	ok := s.swap(layout.Mail(s.c, s.me), s.Word, pack.Result(s.Res))
	s.Try++
	if ok || s.Try == mailTries {
		s.owned()
		return
	}
	s.Pc = api.PGetOwn
}

// owned ends a call that waited; another one looks through what is put away, if that is much.
func (s *step) owned() {
	switch {
	case s.Waits:
		s.finish()
	case s.needs():
		s.Pc = api.PGetGlobal
	default:
		s.Pc = api.PLeaveEpoch
	}
}

// needs tells whether what is put away must be looked through.
func (s *step) needs() bool { return retire.Needs(s.Pool, s.c.Retire) }

// byEpoch frees the nodes that nobody can read any more at an epoch.
func (s *step) byEpoch(w uint64) { s.Pool, _ = retire.ByEpoch(s.Pool, int(w)) }

// scanned goes back to where a node was wanted, or leaves.
func (s *step) scanned() {
	if s.Scans {
		s.take()
		return
	}
	s.Pc = api.PLeaveEpoch
}

// getGlobal reads the epoch, by which old nodes are free.
func (s *step) getGlobal() {
	s.Word = s.load(api.AtGlobal)
	s.byEpoch(s.Word)
	s.I, s.All = 0, true
	s.Pc = api.PGetEpochs
	if !s.needs() {
		s.scanned()
	}
}

// getEpochs asks whether a thread lets the epoch end.
func (s *step) getEpochs() {
	w := s.load(layout.Epoch(s.c, s.I))
	if s.I != s.me && !pack.Lets(w, int(s.Word)) {
		s.All = false
	}
	s.I++
	if s.I != s.c.Threads {
		return
	}
	s.I, s.Seen = 0, nil
	s.Pc = api.PGetGuards
	if s.All {
		s.Pc = api.PSwapGlobal
	}
}

// swapGlobal ends the epoch; if that frees too little, guards are asked.
func (s *step) swapGlobal() {
	s.Pc = api.PGetGuards
	if !s.swap(api.AtGlobal, s.Word, s.Word+1) {
		return
	}
	s.byEpoch(s.Word + 1)
	if !s.needs() {
		s.scanned()
	}
}

// getGuards reads what a thread guards; behind the last one all nodes are free that nobody does.
func (s *step) getGuards() {
	s.Seen = append(s.Seen, s.load(layout.Hazard(s.c, s.I)))
	s.I++
	if s.I != s.c.Threads {
		return
	}
	s.Pool, _ = retire.BySlots(s.Pool, s.Seen)
	s.scanned()
}

// leaveEpoch lets the thread be in no epoch: its call has returned, or it waits.
func (s *step) leaveEpoch() {
	s.store(layout.Epoch(s.c, s.me), 0)
	if pack.Final(s.Res) {
		s.finish()
		return
	}
	s.out.Note = api.NPark
	s.Task = api.Task{Pc: api.PWaitMail, Seq: s.Seq, Req: s.Req, Res: s.Res, Pool: s.Pool, Waits: true}
}

// finish lets the call return.
func (s *step) finish() {
	s.out.Note = api.NReturn
	s.Task = api.Task{Seq: s.Seq, Req: s.Req, Res: s.Res, Pool: s.Pool}
}

// over tells whether a result ends the call.
func (s *step) over(r api.Result) bool { return r.Seq == s.Seq && pack.Final(r) }

// waitMail asks the thread's mail whether its call, which waits, was ended.
func (s *step) waitMail() {
	if r := s.loadResult(layout.Mail(s.c, s.me)); s.over(r) {
		s.Res = r
		s.finish()
		return
	}
	s.Pc = api.PWaitGlobal
}

// waitGlobal reads which epoch there is: the mail may be behind the root, which is asked next.
func (s *step) waitGlobal() {
	s.Epoch = int(s.load(api.AtGlobal))
	s.Pc = api.PWaitEpoch
}

// waitEpoch comes into the epoch.
func (s *step) waitEpoch() {
	s.store(layout.Epoch(s.c, s.me), pack.Epoch(s.Epoch))
	s.Pc = api.PWaitRoot
}

// waitRoot reads the root's name.
func (s *step) waitRoot() {
	s.Base = s.loadName(api.AtRoot)
	s.Pc = api.PWaitGuard
}

// waitGuard guards the base.
func (s *step) waitGuard() {
	s.store(layout.Hazard(s.c, s.me), ref.Word(s.Base))
	s.Pc = api.PWaitAsk
}

// waitAsk asks whether the base is the root still; else the thread has seen nothing by it.
func (s *step) waitAsk() {
	same := s.isBase(s.load(api.AtRoot))
	s.Word = 0
	s.seeIf(same, api.PWaitTag)
}

// waitTag asks whether the base's node is the one that was named.
func (s *step) waitTag() {
	s.seeIf(s.isBaseTag(s.load(s.tagAt(s.Base))), api.PWaitRecord)
}

// seeIf goes on where it is so, and else drops the guard.
func (s *step) seeIf(so bool, pc int) {
	s.Pc = api.PWaitDrop
	if so {
		s.Pc = pc
	}
}

// waitRecord reads what the base's record says of the call.
func (s *step) waitRecord() {
	s.Word = s.load(s.recordAt(s.Base) + code.State(s.c) + s.me)
	s.Pc = api.PWaitDrop
}

// waitDrop guards nothing any more.
func (s *step) waitDrop() {
	s.store(layout.Hazard(s.c, s.me), 0)
	s.Pc = api.PWaitLeave
}

// waitLeave leaves the epoch: the call is over, if the root said so, and else waits on.
func (s *step) waitLeave() {
	s.store(layout.Epoch(s.c, s.me), 0)
	r := pack.ReadResult(s.Word)
	if !s.over(r) {
		s.Pc = api.PWaitMail
		return
	}
	s.Res = r
	s.Try = 0
	s.Pc = api.PGetOwn
}
