// Package fault is layer 4: see ../../shared/doc/04-fault.md.
package fault

import (
	"errors"
	"strconv"
	"strings"

	"stopgate/api"
)

// deepest is how many faults of an error are looked at: errors made by hand may wrap themselves.
const deepest = 64

// Fault is an error at a place of something: a line, a step, a thread.
type Fault struct {
	what  string
	place int
	err   error // nil of one alone that neither At nor In made
}

// Error is its text.
func (f *Fault) Error() string {
	var b strings.Builder
	// A loop down the faults, each one's head once: a text of texts would be written again at each depth.
	for f != nil && f.err != nil {
		b.WriteString(f.head() + ": ")
		inner, _ := first(f.err)
		if error(inner) != f.err {
			b.WriteString(text(f.err))
			break
		}
		f = inner
	}
	return b.String()
}

// head is a fault's name and its place.
func (f *Fault) head() string { return f.what + " " + strconv.Itoa(f.place) }

// Unwrap is what it wraps.
func (f *Fault) Unwrap() error {
	if f == nil {
		return nil
	}
	return f.err
}

// At is an error's number at a place; nil of OK.
func At(what string, place int, e api.Errno) error {
	if e == api.OK {
		return nil
	}
	return In(what, place, e)
}

// In is an error at a place, around another one; nil of none.
func In(what string, place int, err error) error {
	if err == nil {
		return nil
	}
	return &Fault{what: what, place: place, err: err}
}

// Code is an error's number, wherever it lies; OK of none, EFORM of one without.
func Code(err error) api.Errno {
	if err == nil {
		return api.OK
	}
	var e api.Errno
	if asked(func() bool { return errors.As(err, &e) }) {
		return e
	}
	return api.EFORM
}

// Is tells whether an error is a number, wherever it lies.
func Is(err error, e api.Errno) bool {
	return asked(func() bool { return errors.Is(err, e) })
}

// Place is the place of the innermost fault of some name; false: there is none.
func Place(err error, what string) (int, bool) {
	place, ok := 0, false
	for _, f := range faults(err) {
		if f.what == what {
			place, ok = f.place, true
		}
	}
	return place, ok
}

// Path is an error's places, from without: name and number, a / between.
func Path(err error) string {
	var heads []string
	for _, f := range faults(err) {
		heads = append(heads, f.head())
	}
	return strings.Join(heads, "/")
}

// Deep is how many faults lie in one another.
func Deep(err error) int { return len(faults(err)) }

// faults is an error's faults, from without.
func faults(err error) []*Fault {
	var l []*Fault
	for range deepest {
		f, ok := first(err)
		if !ok {
			break
		}
		l = append(l, f)
		err = f.err
	}
	return l
}

// first is the first fault that an error is or wraps; a nil one has no name and no place: it is none.
func first(err error) (*Fault, bool) {
	var f *Fault
	if !asked(func() bool { return errors.As(err, &f) }) || f == nil {
		return nil, false
	}
	return f, true
}

// asked answers a question to errors: those that others made may panic when they are asked, and then the answer is no.
func asked(question func() bool) (yes bool) {
	defer func() {
		if recover() != nil {
			yes = false
		}
	}()
	return question()
}

// text is an error's text; none of one that others made, and that panics when it is asked.
func text(err error) (s string) {
	defer func() {
		if recover() != nil {
			s = ""
		}
	}()
	return err.Error()
}
