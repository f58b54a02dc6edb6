// Package sheet: bytes that are written one behind the other, and read so. Images and logs are made of them.
package sheet

import (
	"strings"

	"pocketpress/api"
	"pocketpress/nums"
)

// Sheet is bytes that are written one behind the other.
type Sheet struct{ b []byte }

// Add writes bytes as they are.
func (s *Sheet) Add(t string) { s.b = append(s.b, t...) }

// Whole tells all that was written.
func (s *Sheet) Whole() string { return string(s.b) }

// Writer writes numbers and texts (chapter 1) on its sheet. The first error stays, so that it need be asked for only once.
type Writer struct {
	Sheet
	err api.Errno
}

// Number writes Put of n.
func (w *Writer) Number(n int) { w.keep(nums.Put(n)) }

// Text writes Text of t.
func (w *Writer) Text(t string) { w.keep(nums.Text(t)) }

// Counted writes how many bytes t has, and they: a text that may be longer than Text takes.
func (w *Writer) Counted(t string) {
	w.Number(len(t))
	w.Add(t)
}

// Result tells all that was written, or the first error.
func (w *Writer) Result() (string, api.Errno) {
	if w.err != api.OK {
		return "", w.err
	}
	return w.Whole(), api.OK
}

func (w *Writer) keep(s string, err api.Errno) {
	if w.err == api.OK {
		w.err = err
	}
	w.Add(s)
}

// Reader takes off the bytes what a Writer wrote on them. Where they are not as they must be, it panics: it is used inside Read alone.
type Reader struct{ rest string }

// On is a reader of these bytes, for a part of what is read.
func On(s string) *Reader { return &Reader{rest: s} }

// Read reads s, and tells how many bytes were read, and whether they are as they must be.
func Read(s string, by func(r *Reader)) (size int, right bool) {
	defer func() {
		// A reader that panics is left wherever it is, by way of whatever reads by it.
		if recover() != nil {
			size, right = 0, false
		}
	}()
	r := On(s)
	by(r)
	return len(s) - len(r.rest), true
}

// Mark reads bytes that must be these.
func (r *Reader) Mark(t string) {
	rest, right := strings.CutPrefix(r.rest, t)
	need(right)
	r.rest = rest
}

// Number reads a number.
func (r *Reader) Number() int {
	n, rest, err := nums.Take(r.rest)
	need(err == api.OK)
	r.rest = rest
	return n
}

// UpTo reads a number that must be at most most.
func (r *Reader) UpTo(most int) int {
	n := r.Number()
	need(n <= most)
	return n
}

// Text reads what Text wrote.
func (r *Reader) Text() string {
	t, rest, err := nums.TakeText(r.rest)
	need(err == api.OK)
	r.rest = rest
	return t
}

// Counted reads what Counted wrote.
func (r *Reader) Counted() string {
	n := r.Number()
	need(n <= len(r.rest))
	t := strings.Clone(r.rest[:n])
	r.rest = r.rest[n:]
	return t
}

// End reads nothing: nothing may be left.
func (r *Reader) End() { need(r.rest == "") }

func need(right bool) {
	if !right {
		panic(api.ErrForm)
	}
}
