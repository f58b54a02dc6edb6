package desk_test

import (
	"fmt"
	"maps"
	"math/rand"
	"slices"
	"strings"
	"testing"

	"pocketpress/api"
	"pocketpress/arch"
	"pocketpress/desk"
	"pocketpress/image"
)

// as is n bytes that are alike.
func as(n int) string { return strings.Repeat("a", n) }

// ask plays lines, and holds what they give against what they must.
func ask(t *testing.T, lines, want []string) {
	t.Helper()
	s, err := desk.Play(joined(lines))
	if err != api.OK {
		t.Fatalf("Play(%q): %d", lines, err)
	}
	if s == joined(want) {
		return
	}
	got := strings.Split(s, "\n")
	for i, l := range lines {
		if i >= len(got) || i >= len(want) || got[i] != want[i] {
			t.Fatalf("line %d, %.80q, of %.300q gives %.300q, and must give %.300q", i, l, lines, got[min(i, len(got)-1)], want[min(i, len(want)-1)])
		}
	}
	t.Fatalf("Play(%q): %q, not %q", lines, s, want)
}

// joined is lines as a script.
func joined(lines []string) string {
	s := ""
	for _, l := range lines {
		s += l + "\n"
	}
	return s
}

// TestI1Script: a script's own form.
func TestI1Script(t *testing.T) {
	wide := "put a 0 " + as(api.MaxImage-9) + "\n"
	for _, c := range []struct {
		name, s, want string
		err           api.Errno
	}{
		{"nothing", "", "", api.OK},
		{"a line feed", "\n", "error 1\n", api.OK},
		{"a line", "list\n", "none\n", api.OK},
		{"a line without a line feed", "list", "", api.ErrForm},
		{"a last line without a line feed", "list\nlist", "", api.ErrForm},
		{"something behind the last line feed", "list\n ", "", api.ErrForm},
		{"a return for a line feed", "list\r", "", api.ErrForm},
		{"a return ahead of the line feed", "list\r\n", "error 1\n", api.OK},
		{"100 lines", strings.Repeat("list\n", 100), strings.Repeat("none\n", 100), api.OK},
		{"101 lines", strings.Repeat("list\n", 101), "", api.ErrMany},
		{"100 empty lines", strings.Repeat("\n", 100), strings.Repeat("error 1\n", 100), api.OK},
		{"101 empty lines", strings.Repeat("\n", 101), "", api.ErrMany},
		{"100 lines, and something behind", strings.Repeat("list\n", 100) + "list", "", api.ErrForm},
		{"101 lines, and something behind", strings.Repeat("list\n", 101) + "list", "", api.ErrMany},
		{"as many bytes as may be", wide, "error 2\n", api.OK},
		{"one byte more", "p" + wide, "", api.ErrMany},
		{"as many bytes as may be, no line feed", as(api.MaxImage), "", api.ErrForm},
		{"one byte more, no line feed", as(api.MaxImage + 1), "", api.ErrMany},
	} {
		if s, err := desk.Play(c.s); s != c.want || err != c.err {
			t.Errorf("%s: %.80q %d, not %.80q %d", c.name, s, err, c.want, c.err)
		}
	}
}

func TestI1Known(t *testing.T) {
	ask(t, []string{"put a 0 one two one two one two", "list"}, []string{"ok", "a:23/12"})
	ask(t, []string{"list", "size", "save", "compact", "save"}, []string{"none", "0", "7", "ok", "7"})
	ask(t,
		[]string{"put a 0 the word the word the word", "get a", "range a 4 4", "list", "size", "save", "put a 0 ", "get a", "list", "size"},
		[]string{"ok", "the word the word the word", "word", "a:26/13", "13", "28", "ok", "", "a:0/1", "1"})
	ask(t,
		[]string{"put b 0 the same words", "put a 0 the same words again", "train 20", "list", "size", "drop a", "list", "compact", "size", "drop b", "compact", "list", "size"},
		[]string{"ok", "ok", "ok", "a:20/19 b:14/13", "52", "ok", "b:14/13", "ok", "33", "ok", "ok", "none", "0"})
}

// TestI1Text: a text is all that is left of its line.
func TestI1Text(t *testing.T) {
	for _, text := range []string{"", " ", "  ", " a", "a ", " a  b ", "0", "put a 0 x", "\t\r", "\x00\xff\x80", "é", as(512)} {
		ask(t, []string{"put n.1 0 " + text, "get n.1", fmt.Sprint("range n.1 0 ", len(text)), fmt.Sprint("range n.1 ", len(text), " 0")}, []string{"ok", text, text, ""})
	}
	ask(t, []string{"put a 0 " + as(513), "list"}, []string{"error 2", "none"})
}

// TestI1NoLine: lines that are none, of each kind.
func TestI1NoLine(t *testing.T) {
	for _, line := range []string{
		"", " ", "x", "lists", "List", "LIST", "list ", " list", "list x", "list  ", "size ", "size 0", "save ", "save a", "compact ", "compact now", "\tlist",
		"put", "put ", "put a", "put a ", "put a 0", "put a x y", "put a  x", "put a -1 x", "put a +0 x", "put a 00 x", "put a 01 x", "put a 1000000 x", "put a 0x0 x",
		"put a 0\tx", "puta 0 x", " put a 0 x", "put  a 0 x", "put A x y", "drop", "drop a b", "drop a ", "drop  a", "train", "train ", "train x", "train 08", "train 1 ", "train  1", "train 1 1",
		"train -1", "train +1", "train 1.0", "train 1e1", "train 1_0", "train 1000000", "train 9999999999999999999999", "train \xd9\xa1", "get", "get a b", "get a ", "get  a",
		"range", "range a", "range a 0", "range a 0 ", "range a 0 x", "range a x 0", "range a 00 1", "range a 0 01", "range a  0", "range a 0 0 ", "range a 0 0 0", "range a -1 1", "range a 0 1000000",
	} {
		ask(t, []string{"put a 0 abc", line, "list", "get a"}, []string{"ok", "error 1", "a:3/4", "abc"})
	}
}

// TestI1Errors: lines whose call has an error of its own; nothing has changed.
func TestI1Errors(t *testing.T) {
	for _, c := range []struct{ line, want string }{
		{"put A 0 x", "error 4"}, {"put  0 x", "error 4"}, {"put 1234567890123 0 x", "error 4"}, {"put A 9 x", "error 4"}, {"put \xff 0 x", "error 4"},
		{"put a 1 x", "error 3"}, {"put a 999999 x", "error 3"}, {"put b 1 " + as(513), "error 3"}, {"put b 0 " + as(513), "error 2"}, {"put a 0 " + as(513), "error 2"},
		{"drop b", "error 5"}, {"drop ", "error 5"}, {"drop A", "error 5"}, {"drop aa", "error 5"},
		{"train 257", "error 3"}, {"train 999999", "error 3"},
		{"get b", "error 5"}, {"get ", "error 5"}, {"get A", "error 5"},
		{"range b 0 0", "error 5"}, {"range  0 0", "error 5"}, {"range b 9 9", "error 5"},
		{"range a 0 4", "error 3"}, {"range a 3 1", "error 3"}, {"range a 4 0", "error 3"}, {"range a 999999 999999", "error 3"},
	} {
		ask(t, []string{"put a 0 abc", c.line, "list", "size", "get a"}, []string{"ok", c.want, "a:3/4", "4", "abc"})
	}
}

// TestI1Limits: as many files and dictionaries as may be, and one more.
func TestI1Limits(t *testing.T) {
	var lines, want, files []string
	for i := range api.MaxFiles {
		name := string(rune('a' + i))
		lines, want = append(lines, "put "+name+" 0 x"), append(want, "ok")
		files = append(files, name+":1/2")
	}
	lines, want = append(lines, "put zz 0 x", "put a 0 y", "list"), append(want, "error 2", "ok", strings.Join(files, " "))
	for range api.MaxDicts {
		lines, want = append(lines, "train 0"), append(want, "ok")
	}
	lines, want = append(lines, "train 0", "train 257", "put a 4 x", "put a 5 x"), append(want, "error 2", "error 3", "ok", "error 3")
	lines, want = append(lines, "size", "compact", "put a 1 x", "put a 2 x", "train 256"), append(want, "24", "ok", "ok", "error 3", "ok")
	ask(t, lines, want)
}

// TestI1Numbers: numbers of one to six digits.
func TestI1Numbers(t *testing.T) {
	ask(t,
		[]string{"put a 0 " + as(512), "range a 0 1", "range a 9 1", "range a 10 1", "range a 511 1", "range a 512 0", "range a 100000 0", "range a 0 999999", "train 0", "train 256", "train 100000", "train 0000000"},
		[]string{"ok", "a", "a", "a", "a", "", "error 3", "error 3", "ok", "ok", "error 3", "error 1"})
}

// model is what the lines must give: an archive that is changed by the calls alone, and the texts.
type model struct {
	a     api.Archive
	texts map[string]string
}

// change is what a line gives that answers an archive.
func (m *model) change(a api.Archive, err api.Errno) (string, bool) {
	if err != api.OK {
		return fmt.Sprint("error ", int(err)), false
	}
	m.a = a
	return "ok", true
}

// draw draws a line, and tells what it must give.
func (m *model) draw(r *rand.Rand) (string, string) {
	name := []string{"a", "b", "c.1", "d", "e", "zz"}[r.Intn(6)]
	text, there := m.texts[name]
	switch r.Intn(11) {
	case 0:
		want, done := m.change(arch.Drop(m.a, name))
		if done {
			delete(m.texts, name)
		}
		return "drop " + name, want
	case 1:
		n := r.Intn(270)
		want, _ := m.change(arch.Retrain(m.a, n))
		return fmt.Sprint("train ", n), want
	case 2:
		want, _ := m.change(arch.Compact(m.a))
		return "compact", want
	case 3:
		if !there {
			return "get " + name, "error 5"
		}
		return "get " + name, text
	case 4:
		from, n := r.Intn(30), r.Intn(30)
		line := fmt.Sprint("range ", name, " ", from, " ", n)
		switch {
		case !there:
			return line, "error 5"
		case from+n > len(text):
			return line, "error 3"
		}
		return line, text[from : from+n]
	case 5:
		return "list", m.list()
	case 6:
		n, _ := arch.Size(m.a)
		return "size", fmt.Sprint(n)
	case 7:
		s, _ := image.Save(m.a)
		return "save", fmt.Sprint(len(s))
	}
	text = strings.Repeat("some words ", r.Intn(6)) + strings.Repeat("the word ", r.Intn(6)) + as(r.Intn(6))
	dict := r.Intn(3)
	want, done := m.change(arch.Put(m.a, name, text, dict))
	if done {
		m.texts[name] = text
	}
	return fmt.Sprint("put ", name, " ", dict, " ", text), want
}

func (m *model) list() string {
	if len(m.texts) == 0 {
		return "none"
	}
	var l []string
	for i, name := range slices.Sorted(maps.Keys(m.texts)) {
		l = append(l, fmt.Sprintf("%s:%d/%d", name, len(m.texts[name]), len(m.a.Files[i].Block)))
	}
	return strings.Join(l, " ")
}

// TestI2Drawn: each line gives one line, in their order, and goes on with what the ones ahead of it have left.
func TestI2Drawn(t *testing.T) {
	r := rand.New(rand.NewSource(1))
	for range 150 {
		m := model{texts: map[string]string{}}
		var lines, want []string
		for range r.Intn(101) {
			line, gives := m.draw(r)
			lines, want = append(lines, line), append(want, gives)
		}
		ask(t, lines, want)
	}
}

// TestP1Wild: whatever is handed in, it ends, and gives as many lines as there are, or an error alone.
func TestP1Wild(t *testing.T) {
	r := rand.New(rand.NewSource(2))
	parts := []string{"put", "drop", "train", "compact", "get", "range", "list", "size", "save", " ", " ", " ", " ", "a", "b", "0", "1", "12", "-1", "\n", "\n", "\n", "\xff", ""}
	for range 3000 {
		s := ""
		for range r.Intn(60) {
			s += parts[r.Intn(len(parts))]
		}
		out, err := desk.Play(s)
		switch {
		case s == "" || strings.HasSuffix(s, "\n"):
			if err != api.OK || strings.Count(out, "\n") != strings.Count(s, "\n") {
				t.Errorf("Play(%q): %q %d", s, out, err)
			}
		case out != "" || err != api.ErrForm:
			t.Errorf("Play(%q): %q %d", s, out, err)
		}
	}
}

// TestP3SameAgain: a script finds an empty archive, whatever was played ahead of it.
func TestP3SameAgain(t *testing.T) {
	for range 3 {
		ask(t, []string{"list", "put a 0 x", "train 9", "list", "save"}, []string{"none", "ok", "ok", "a:1/2", "16"})
		ask(t, []string{"size", "put a 1 x", "drop a"}, []string{"0", "error 3", "error 5"})
	}
}

// TestP4Long: what is too long is told, and not gone through.
func TestP4Long(t *testing.T) {
	for _, s := range []string{as(1 << 24), strings.Repeat("list\n", 1<<22)} {
		if out, err := desk.Play(s); out != "" || err != api.ErrMany {
			t.Errorf("Play of %d bytes: %d", len(s), err)
		}
	}
}
