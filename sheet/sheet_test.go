package sheet_test

import (
	"math"
	"strings"
	"testing"

	"pocketpress/api"
	"pocketpress/sheet"
)

// written is something of each kind, in an order of its own.
func written(w *sheet.Writer) {
	w.Add("mark")
	w.Number(300)
	w.Text("text")
	w.Counted(strings.Repeat("c", 600))
	w.Number(0)
}

func TestWriterWrites(t *testing.T) {
	var w sheet.Writer
	written(&w)
	want := "mark\xac\x02\x04text\xd8\x04" + strings.Repeat("c", 600) + "\x00"
	if s, err := w.Result(); s != want || err != api.OK {
		t.Errorf("%q %d", s, err)
	}
	if s := w.Whole(); s != want {
		t.Errorf("%q", s)
	}
}

// TestWriterFirstError: the first one stays, whatever is written behind it.
func TestWriterFirstError(t *testing.T) {
	long := strings.Repeat("a", 513)
	for _, c := range []struct {
		name  string
		write func(w *sheet.Writer)
		want  api.Errno
	}{
		{"no number", func(w *sheet.Writer) { w.Number(-1); w.Number(1) }, api.ErrRange},
		{"no text", func(w *sheet.Writer) { w.Text(long); w.Text("") }, api.ErrMany},
		{"no number, no text", func(w *sheet.Writer) { w.Number(math.MaxInt); w.Text(long) }, api.ErrRange},
		{"no text, no number", func(w *sheet.Writer) { w.Text(long); w.Number(-1) }, api.ErrMany},
		{"a counted text", func(w *sheet.Writer) { w.Counted(long) }, api.OK},
	} {
		var w sheet.Writer
		c.write(&w)
		if s, err := w.Result(); err != c.want || (err != api.OK) != (s == "") {
			t.Errorf("%s: %q %d, not %d", c.name, s, err, c.want)
		}
	}
}

func TestReaderReads(t *testing.T) {
	var w sheet.Writer
	written(&w)
	s := w.Whole()
	var n, last int
	var text, counted string
	size, right := sheet.Read(s+"behind", func(r *sheet.Reader) {
		r.Mark("mark")
		n = r.UpTo(300)
		text = r.Text()
		counted = r.Counted()
		last = r.Number()
	})
	if size != len(s) || !right || n != 300 || text != "text" || counted != strings.Repeat("c", 600) || last != 0 {
		t.Errorf("%d %v: %d %q %q %d", size, right, n, text, counted, last)
	}
}

// TestReaderLeaves: what is not as it must be is told, and what would be read behind it is not.
func TestReaderLeaves(t *testing.T) {
	for _, c := range []struct {
		name, s string
		read    func(r *sheet.Reader)
		right   bool
	}{
		{"the mark", "ab", func(r *sheet.Reader) { r.Mark("ab"); r.End() }, true},
		{"another mark", "ac", func(r *sheet.Reader) { r.Mark("ab") }, false},
		{"half a mark", "a", func(r *sheet.Reader) { r.Mark("ab") }, false},
		{"a number", "\x03", func(r *sheet.Reader) { r.Number(); r.End() }, true},
		{"no number", "", func(r *sheet.Reader) { r.Number() }, false},
		{"half a number", "\x80", func(r *sheet.Reader) { r.Number() }, false},
		{"a number with a part to spare", "\x83\x00", func(r *sheet.Reader) { r.Number() }, false},
		{"as much as may be", "\x03", func(r *sheet.Reader) { r.UpTo(3) }, true},
		{"one more", "\x04", func(r *sheet.Reader) { r.UpTo(3) }, false},
		{"a text", "\x02ab", func(r *sheet.Reader) { r.Text(); r.End() }, true},
		{"a text that is cut", "\x02a", func(r *sheet.Reader) { r.Text() }, false},
		{"a text that is too long", "\x81\x04" + strings.Repeat("a", 513), func(r *sheet.Reader) { r.Text() }, false},
		{"a counted text as long", "\x81\x04" + strings.Repeat("a", 513), func(r *sheet.Reader) { r.Counted(); r.End() }, true},
		{"a counted text that is cut", "\x02a", func(r *sheet.Reader) { r.Counted() }, false},
		{"a counted text of very many", "\xff\xff\xff\xff\x07a", func(r *sheet.Reader) { r.Counted() }, false},
		{"something behind", "\x02ab\x00", func(r *sheet.Reader) { r.Text(); r.End() }, false},
		{"a part", "\x02\x01a", func(r *sheet.Reader) { sheet.On(r.Counted()).Text(); r.End() }, true},
		{"a part that is not right", "\x02\x02a", func(r *sheet.Reader) { sheet.On(r.Counted()).Text() }, false},
	} {
		ended := false
		size, right := sheet.Read(c.s, func(r *sheet.Reader) {
			c.read(r)
			ended = true
		})
		want := 0
		if c.right {
			want = len(c.s)
		}
		if right != c.right || ended != c.right || size != want {
			t.Errorf("%s: %d %v, ended %v", c.name, size, right, ended)
		}
	}
}
