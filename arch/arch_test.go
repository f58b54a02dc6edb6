package arch_test

import (
	"maps"
	"math"
	"math/rand"
	"slices"
	"strings"
	"testing"

	"pocketpress/api"
	"pocketpress/arch"
	"pocketpress/block"
	"pocketpress/nums"
	"pocketpress/train"
)

// as is n bytes that are alike.
func as(n int) string { return strings.Repeat("a", n) }

// wordy draws a text that has much in it twice.
func wordy(r *rand.Rand, n int) string {
	words := []string{"the ", "word", "abc", "a", " ", "xyz", "\x00", "\xff\x80"}
	s := ""
	for len(s) < n {
		if at := r.Intn(len(s) + 1); r.Intn(3) == 0 {
			s += s[at:min(len(s), at+1+r.Intn(40))]
		}
		s += words[r.Intn(len(words))]
	}
	return s[:n]
}

// file makes a right file, packed by d, whose number is n.
func file(t *testing.T, name, text, d string, n int) api.File {
	t.Helper()
	b, err := block.Pack(d, text)
	if err != api.OK {
		t.Fatalf("Pack(%q, %q): %d", d, text, err)
	}
	return api.File{Name: name, Dict: n, Size: len(text), Sum: nums.Sum(text), Block: b}
}

// sample is an archive of three dictionaries and of files that are packed by none, the first and the third.
func sample(t *testing.T) api.Archive {
	t.Helper()
	return api.Archive{
		Dicts: []string{"hello ", "nobody's", "the word"},
		Files: []api.File{
			file(t, "a", "hello hello hello hello ", "hello ", 1),
			file(t, "b.1", "", "the word", 3),
			file(t, "b.2", "the word is the word", "the word", 3),
			file(t, "c", "as it is", "", 0),
		},
	}
}

// sampleTexts are the texts of sample.
func sampleTexts() map[string]string {
	return map[string]string{"a": "hello hello hello hello ", "b.1": "", "b.2": "the word is the word", "c": "as it is"}
}

// filled is an archive of n files and as many dictionaries as there may be.
func filled(t *testing.T, n int) api.Archive {
	t.Helper()
	a := api.Archive{Dicts: []string{"one", "two", "three", as(256)}}
	for i := range n {
		k := i % 5
		d := append([]string{""}, a.Dicts...)[k]
		a.Files = append(a.Files, file(t, "f"+string(rune('a'+i)), "one two three "+as(i), d, k))
	}
	return a
}

// copyOf is an archive with lists of its own.
func copyOf(a api.Archive) api.Archive {
	return api.Archive{Dicts: slices.Clone(a.Dicts), Files: slices.Clone(a.Files)}
}

// same asks for all but for what a nil list and an empty one differ in.
func same(a, b api.Archive) bool {
	return slices.Equal(a.Dicts, b.Dicts) && slices.Equal(a.Files, b.Files)
}

// isZero asks whether there is nothing in an archive.
func isZero(a api.Archive) bool { return len(a.Dicts) == 0 && len(a.Files) == 0 }

type checkCase struct {
	name string
	a    api.Archive
	want api.Errno
}

// turned is what sample becomes by a turn.
func turned(t *testing.T, turn func(a *api.Archive)) api.Archive {
	a := sample(t)
	turn(&a)
	return a
}

// named is an archive of empty files with these names.
func named(t *testing.T, names ...string) api.Archive {
	t.Helper()
	var a api.Archive
	for _, n := range names {
		a.Files = append(a.Files, file(t, n, "", "", 0))
	}
	return a
}

func nameCases(t *testing.T) []checkCase {
	l := []checkCase{
		{"names that rise", named(t, ".", "..", "0", "9", "a", "a.", "a0", "aa", "b", "z"), api.OK},
		{"a name of one point", named(t, "."), api.OK},
		{"a name of 12 bytes", named(t, "abcxyz0189.."), api.OK},
		{"a name of 13 bytes", named(t, "abcxyz0189..."), api.ErrForm},
		{"no name", named(t, ""), api.ErrForm},
		{"a name twice", named(t, "a", "a"), api.ErrForm},
		{"names that fall", named(t, "b", "a"), api.ErrForm},
		{"a name behind a longer one", named(t, "aa", "a"), api.ErrForm},
		{"the last two names fall", named(t, "a", "c", "b"), api.ErrForm},
		{"no second name", named(t, "a", ""), api.ErrForm},
	}
	for _, bad := range []string{"A", "Z", "a b", "a-b", "a_b", "a/", "`", "{", "/", ":", "-", "\x00", "a\n", "\x80", "é", "\xff"} {
		l = append(l, checkCase{"the name " + bad, named(t, bad), api.ErrForm})
	}
	return l
}

func checkCases(t *testing.T) []checkCase {
	many := func(n int) api.Archive { return api.Archive{Dicts: make([]string, n)} }
	return []checkCase{
		{"nothing", api.Archive{}, api.OK},
		{"the sample", sample(t), api.OK},
		{"as much as may be", filled(t, 12), api.OK},
		{"13 files", filled(t, 13), api.ErrMany},
		{"4 dictionaries", many(4), api.OK},
		{"5 dictionaries", many(5), api.ErrMany},
		{"a dictionary of 256", api.Archive{Dicts: []string{"", as(256)}}, api.OK},
		{"a dictionary of 257", api.Archive{Dicts: []string{"", as(257)}}, api.ErrMany},
		{"13 files that are none", api.Archive{Files: make([]api.File, 13)}, api.ErrMany},
		{"12 files that are none", api.Archive{Files: make([]api.File, 12)}, api.ErrForm},
		{"a wrong file, and 5 dictionaries", turned(t, func(a *api.Archive) { a.Files[0].Size++; a.Dicts = append(a.Dicts, "", "") }), api.ErrMany},
		{"a wrong file, and a dictionary of 257", turned(t, func(a *api.Archive) { a.Files[0].Name = ""; a.Dicts[1] = as(257) }), api.ErrMany},
		{"a dictionary below 0", turned(t, func(a *api.Archive) { a.Files[3].Dict = -1 }), api.ErrForm},
		{"the least dictionary", turned(t, func(a *api.Archive) { a.Files[3].Dict = math.MinInt }), api.ErrForm},
		{"one more than there are", turned(t, func(a *api.Archive) { a.Files[3].Dict = 4 }), api.ErrForm},
		{"as many as there are", turned(t, func(a *api.Archive) { a.Files[3].Dict = 3 }), api.OK},
		{"the greatest dictionary", turned(t, func(a *api.Archive) { a.Files[3].Dict = math.MaxInt }), api.ErrForm},
		{"another dictionary", turned(t, func(a *api.Archive) { a.Files[0].Dict = 2 }), api.ErrForm},
		{"no dictionary", turned(t, func(a *api.Archive) { a.Files[0].Dict = 0 }), api.ErrForm},
		{"the dictionary is another one", turned(t, func(a *api.Archive) { a.Dicts[0] = "hallo " }), api.ErrForm},
		{"an unneeded dictionary is another one", turned(t, func(a *api.Archive) { a.Dicts[1] = "" }), api.OK},
		{"one byte more", turned(t, func(a *api.Archive) { a.Files[2].Size++ }), api.ErrForm},
		{"one byte less", turned(t, func(a *api.Archive) { a.Files[2].Size-- }), api.ErrForm},
		{"a sum of one more", turned(t, func(a *api.Archive) { a.Files[2].Sum++ }), api.ErrForm},
		{"a sum of 2^16 more", turned(t, func(a *api.Archive) { a.Files[2].Sum += 1 << 16 }), api.ErrForm},
		{"a sum of an empty text", turned(t, func(a *api.Archive) { a.Files[1].Sum = -1 }), api.ErrForm},
		{"no block", turned(t, func(a *api.Archive) { a.Files[3].Block = "" }), api.ErrForm},
		{"a block with a byte behind", turned(t, func(a *api.Archive) { a.Files[0].Block += "\x00" }), api.ErrForm},
		{"a block of another text", turned(t, func(a *api.Archive) { a.Files[3].Block = "\x00as it iz" }), api.ErrForm},
		{"the last file alone is wrong", turned(t, func(a *api.Archive) { a.Files[3].Block = "\x03" }), api.ErrForm},
		{"another block of the text", turned(t, func(a *api.Archive) { a.Files[3].Block = "\x01\x10as it is" }), api.OK},
		{"a text of 512 bytes", api.Archive{Files: []api.File{file(t, "a", as(512), "", 0)}}, api.OK},
		{"a text of 513 bytes", api.Archive{Files: []api.File{{Name: "a", Size: 513, Sum: nums.Sum(as(513)), Block: "\x00" + as(513)}}}, api.ErrForm},
	}
}

// TestF1Check: and all others tell the same first, whatever else is wrong.
func TestF1Check(t *testing.T) {
	for _, c := range append(nameCases(t), checkCases(t)...) {
		if err := arch.Check(c.a); err != c.want {
			t.Errorf("%s: Check: %d, not %d", c.name, err, c.want)
		}
		if c.want == api.OK {
			if _, err := arch.Size(c.a); err != api.OK {
				t.Errorf("%s: Size: %d", c.name, err)
			}
			continue
		}
		askRefused(t, c.name, c.a, c.want)
	}
}

// askRefused asks all calls with an archive that is not right, and with things that are.
func askRefused(t *testing.T, name string, a api.Archive, want api.Errno) {
	t.Helper()
	told := func(call string, b api.Archive, s string, n int, err api.Errno) {
		t.Helper()
		if !isZero(b) || s != "" || n != 0 || err != want {
			t.Errorf("%s: %s: %v %q %d %d, not %d", name, call, b, s, n, err, want)
		}
	}
	for _, c := range []struct {
		file, text    string
		dict, from, n int
	}{{"a", "text", 0, 0, 0}, {"", as(513), -1, -1, -1}, {"none", "", 9, 999, 999}} {
		b, err := arch.Put(a, c.file, c.text, c.dict)
		told("Put", b, "", 0, err)
		b, err = arch.Drop(a, c.file)
		told("Drop", b, "", 0, err)
		s, err := arch.Get(a, c.file)
		told("Get", api.Archive{}, s, 0, err)
		s, err = arch.Range(a, c.file, c.from, c.n)
		told("Range", api.Archive{}, s, 0, err)
		b, err = arch.Retrain(a, c.n)
		told("Retrain", b, "", 0, err)
		b, err = arch.Compact(a)
		told("Compact", b, "", 0, err)
		n, err := arch.Size(a)
		told("Size", api.Archive{}, "", n, err)
	}
}

// TestF2Put: new files ahead, between and behind, and files that were there.
func TestF2Put(t *testing.T) {
	for _, c := range []struct {
		name, text string
		dict, at   int
		there      bool
	}{
		{".", "the word", 3, 0, false},
		{"0", "hello ", 1, 0, false},
		{"a", "hello hello", 1, 0, true},
		{"a", "", 0, 0, true},
		{"a.", "nobody's fault", 2, 1, false},
		{"aa", wordy(rand.New(rand.NewSource(1)), 512), 3, 1, false},
		{"b.2", "the word", 0, 2, true},
		{"b.3", "the word", 0, 3, false},
		{"c", "other", 2, 3, true},
		{"zzzzzzzzzzzz", "\x00\xff", 3, 4, false},
	} {
		a := sample(t)
		d := append([]string{""}, a.Dicts...)[c.dict]
		want := copyOf(a)
		if c.there {
			want.Files = slices.Delete(want.Files, c.at, c.at+1)
		}
		want.Files = slices.Insert(want.Files, c.at, file(t, c.name, c.text, d, c.dict))
		b, err := arch.Put(a, c.name, c.text, c.dict)
		if !same(b, want) || err != api.OK {
			t.Errorf("Put(%q, %q, %d): %v %d, not %v", c.name, c.text, c.dict, b, err, want)
		}
		if err := arch.Check(b); err != api.OK {
			t.Errorf("Put(%q, %q, %d): %v is not right: %d", c.name, c.text, c.dict, b, err)
		}
	}
	b, err := arch.Put(api.Archive{}, "a", "text", 0)
	if want := (api.Archive{Files: []api.File{{Name: "a", Size: 4, Sum: 't' + 2*'e' + 3*'x' + 4*'t', Block: "\x00text"}}}); !same(b, want) || err != api.OK {
		t.Errorf("Put into nothing: %v %d, not %v", b, err, want)
	}
}

func TestF2PutErrors(t *testing.T) {
	full, room := filled(t, 12), filled(t, 11)
	for _, c := range []struct {
		why        string
		a          api.Archive
		name, text string
		dict       int
		want       api.Errno
	}{
		{"no name", room, "", "", 0, api.ErrName},
		{"13 bytes", room, "aaaaaaaaaaaaa", "", 0, api.ErrName},
		{"12 bytes", room, "aaaaaaaaaaaa", "", 0, api.OK},
		{"a great letter", room, "aB", "", 0, api.ErrName},
		{"a blank", room, "a b", "", 0, api.ErrName},
		{"a byte ahead of 0", room, "/", "", 0, api.ErrName},
		{"a byte behind 9", room, ":", "", 0, api.ErrName},
		{"a byte ahead of a", room, "`", "", 0, api.ErrName},
		{"a byte behind z", room, "{", "", 0, api.ErrName},
		{"no name, and all else", full, "", as(513), 5, api.ErrName},
		{"a dictionary below 0", room, "a", "", -1, api.ErrRange},
		{"the last dictionary", room, "a", "", 4, api.OK},
		{"one behind it", room, "a", "", 5, api.ErrRange},
		{"the greatest", room, "a", "", math.MaxInt, api.ErrRange},
		{"the least", room, "a", "", math.MinInt, api.ErrRange},
		{"no such dictionary, and all else", full, "a", as(513), 5, api.ErrRange},
		{"512 bytes", room, "a", as(512), 4, api.OK},
		{"513 bytes", room, "a", as(513), 4, api.ErrMany},
		{"the twelfth file", room, "a", "", 0, api.OK},
		{"the thirteenth", full, "a", "", 0, api.ErrMany},
		{"the thirteenth, behind all", full, "zz", "", 0, api.ErrMany},
		{"one of twelve again", full, "fc", "text", 0, api.OK},
		{"the last of twelve again", full, "fl", "text", 4, api.OK},
		{"one of twelve again, 513 bytes", full, "fc", as(513), 0, api.ErrMany},
	} {
		b, err := arch.Put(c.a, c.name, c.text, c.dict)
		if err != c.want || (err != api.OK) != isZero(b) {
			t.Errorf("%s: %v %d, not %d", c.why, b, err, c.want)
		}
	}
}

func TestF2Drop(t *testing.T) {
	for i, f := range sample(t).Files {
		a := sample(t)
		want := copyOf(a)
		want.Files = slices.Delete(want.Files, i, i+1)
		b, err := arch.Drop(a, f.Name)
		if !same(b, want) || err != api.OK {
			t.Errorf("Drop(%q): %v %d, not %v", f.Name, b, err, want)
		}
		if b, err := arch.Drop(b, f.Name); !isZero(b) || err != api.ErrNone {
			t.Errorf("Drop(%q) again: %v %d", f.Name, b, err)
		}
	}
}

func TestF2Get(t *testing.T) {
	for name, text := range sampleTexts() {
		if s, err := arch.Get(sample(t), name); s != text || err != api.OK {
			t.Errorf("Get(%q): %q %d, not %q", name, s, err, text)
		}
	}
}

// TestF2None: what is no name is no file's either.
func TestF2None(t *testing.T) {
	for _, a := range []api.Archive{{}, sample(t), filled(t, 12)} {
		for _, name := range []string{"", "A", "0", "aa", "b", "b.", "b.11", "cc", "zz", "a ", as(13), as(1 << 16)} {
			if b, err := arch.Drop(a, name); !isZero(b) || err != api.ErrNone {
				t.Errorf("Drop(%.20q): %v %d", name, b, err)
			}
			if s, err := arch.Get(a, name); s != "" || err != api.ErrNone {
				t.Errorf("Get(%.20q): %q %d", name, s, err)
			}
			for _, n := range []int{0, 1, -1, math.MaxInt} {
				if s, err := arch.Range(a, name, n, n); s != "" || err != api.ErrNone {
					t.Errorf("Range(%.20q): %q %d", name, s, err)
				}
			}
		}
	}
}

// TestF2Range: all ranges of all texts, and some that reach far out.
func TestF2Range(t *testing.T) {
	a := sample(t)
	for name, text := range sampleTexts() {
		for from := range len(text) + 1 {
			for n := range len(text) - from + 1 {
				if s, err := arch.Range(a, name, from, n); s != text[from:from+n] || err != api.OK {
					t.Errorf("Range(%q, %d, %d): %q %d", name, from, n, s, err)
				}
			}
		}
		size := len(text)
		for _, c := range [][2]int{
			{0, size + 1}, {size, 1}, {size + 1, 0}, {size + 1, -1}, {-1, 0}, {-1, 1}, {-1, size + 1}, {0, -1}, {size, -size - 1},
			{math.MaxInt, 1}, {1, math.MaxInt}, {math.MaxInt, math.MaxInt}, {math.MaxInt, 0}, {0, math.MaxInt},
			{math.MinInt, 0}, {0, math.MinInt}, {math.MinInt, math.MaxInt}, {math.MaxInt, math.MinInt}, {math.MinInt, math.MinInt},
		} {
			if s, err := arch.Range(a, name, c[0], c[1]); s != "" || err != api.ErrRange {
				t.Errorf("Range(%q, %d, %d): %q %d", name, c[0], c[1], s, err)
			}
		}
	}
}

func TestF3Retrain(t *testing.T) {
	for _, size := range []int{0, 3, 4, 8, 17, 40, 256} {
		a := sample(t)
		texts := sampleTexts()
		var all []string
		for _, f := range a.Files {
			all = append(all, texts[f.Name])
		}
		d, err := train.Train(all, size)
		if err != api.OK {
			t.Fatalf("Train: %d", err)
		}
		want := api.Archive{Dicts: append(slices.Clone(a.Dicts), d)}
		for _, f := range a.Files {
			want.Files = append(want.Files, file(t, f.Name, texts[f.Name], d, 4))
		}
		b, err := arch.Retrain(a, size)
		if !same(b, want) || err != api.OK {
			t.Errorf("Retrain with %d: %v %d, not %v", size, b, err, want)
		}
	}
}

// TestF3RetrainKnown: the document's example of training, as files; and no files.
func TestF3RetrainKnown(t *testing.T) {
	var a api.Archive
	for i, text := range []string{"abcde", "xabcde", "zzzz"} {
		a.Files = append(a.Files, file(t, string(rune('a'+i)), text, "", 0))
	}
	b, err := arch.Retrain(a, 8)
	if len(b.Dicts) != 1 || b.Dicts[0] != "bcdeabcd" || err != api.OK {
		t.Errorf("%q %d", b.Dicts, err)
	}
	for _, f := range b.Files {
		if f.Dict != 1 {
			t.Errorf("%q is packed by %d", f.Name, f.Dict)
		}
	}
	b, err = arch.Retrain(api.Archive{}, 8)
	if !same(b, api.Archive{Dicts: []string{""}}) || err != api.OK {
		t.Errorf("of nothing: %v %d", b, err)
	}
}

func TestF3RetrainErrors(t *testing.T) {
	full := filled(t, 3)
	room := copyOf(full)
	room.Files = room.Files[:1]
	room.Dicts = room.Dicts[:3]
	for _, c := range []struct {
		why  string
		a    api.Archive
		size int
		want api.Errno
	}{
		{"-1", room, -1, api.ErrRange},
		{"0", room, 0, api.OK},
		{"256", room, 256, api.OK},
		{"257", room, 257, api.ErrRange},
		{"the least", room, math.MinInt, api.ErrRange},
		{"the greatest", room, math.MaxInt, api.ErrRange},
		{"four dictionaries", full, 8, api.ErrMany},
		{"four dictionaries, -1", full, -1, api.ErrRange},
		{"four dictionaries, 257", full, 257, api.ErrRange},
		{"four dictionaries, no file", api.Archive{Dicts: make([]string, 4)}, 0, api.ErrMany},
	} {
		b, err := arch.Retrain(c.a, c.size)
		if err != c.want || (err != api.OK) != isZero(b) {
			t.Errorf("%s: %v %d, not %d", c.why, b, err, c.want)
		}
	}
}

func TestF3Compact(t *testing.T) {
	a := sample(t)
	want := copyOf(a)
	want.Dicts = []string{"hello ", "the word"}
	want.Files[1].Dict, want.Files[2].Dict = 2, 2
	if b, err := arch.Compact(a); !same(b, want) || err != api.OK {
		t.Errorf("%v %d, not %v", b, err, want)
	}
	if b, err := arch.Compact(want); !same(b, want) || err != api.OK {
		t.Errorf("again: %v %d, not %v", b, err, want)
	}
	if b, err := arch.Compact(api.Archive{Dicts: []string{"a", "b"}}); !isZero(b) || err != api.OK {
		t.Errorf("without files: %v %d", b, err)
	}
	// Which one a file is packed by decides, not what stands in it, nor whether its block copies out of it.
	twins := api.Archive{Dicts: []string{"", "same", "same", ""}, Files: []api.File{
		file(t, "a", "no copies", "", 4), file(t, "b", "", "same", 3), file(t, "c", "same", "same", 2)}}
	want = copyOf(twins)
	want.Dicts = want.Dicts[1:]
	want.Files[0].Dict, want.Files[1].Dict, want.Files[2].Dict = 3, 2, 1
	if b, err := arch.Compact(twins); !same(b, want) || err != api.OK {
		t.Errorf("twins: %v %d, not %v", b, err, want)
	}
}

// TestF3CompactLeaves: a file of two is dropped, the other one needs the dictionary; then it is dropped too.
func TestF3CompactLeaves(t *testing.T) {
	var a api.Archive
	var err api.Errno
	for _, name := range []string{"a", "b"} {
		if a, err = arch.Put(a, name, "some words of "+name, 0); err != api.OK {
			t.Fatalf("Put: %d", err)
		}
	}
	if a, err = arch.Retrain(a, 40); err != api.OK || a.Dicts[0] == "" {
		t.Fatalf("Retrain: %v %d", a, err)
	}
	for _, want := range []int{1, 0} {
		if a, err = arch.Drop(a, a.Files[0].Name); err != api.OK {
			t.Fatalf("Drop: %d", err)
		}
		if a, err = arch.Compact(a); len(a.Dicts) != want || len(a.Files) != want || err != api.OK {
			t.Errorf("Compact: %v %d", a, err)
		}
	}
}

func TestF3Size(t *testing.T) {
	for _, c := range []struct {
		a    api.Archive
		want int
	}{
		{api.Archive{}, 0},
		{api.Archive{Dicts: []string{"", "ab", "abc"}}, 5},
		{named(t, "a", "b", "c"), 3},
		// Blocks of 3, 1 and 9 bytes behind dictionaries of 6 and 8.
		{api.Archive{Dicts: []string{"hello ", "nobody's"}, Files: []api.File{
			file(t, "a", "hello hello hello hello ", "hello ", 1), file(t, "b", "", "", 0), file(t, "c", "as it is", "", 0)}}, 27},
	} {
		if n, err := arch.Size(c.a); n != c.want || err != api.OK {
			t.Errorf("Size(%v): %d %d, not %d", c.a, n, err, c.want)
		}
	}
}

// run is an archive, and beside it what must be in it.
type run struct {
	a     api.Archive
	texts map[string]string
}

// act does something drawn, and tells whether it was done.
func (x *run) act(t *testing.T, r *rand.Rand) bool {
	name := []string{"a", "b", "b.1", "c", "d", "e.5", "zz", "0"}[r.Intn(8)]
	before, _ := arch.Size(x.a)
	var b api.Archive
	var err api.Errno
	texts := maps.Clone(x.texts)
	switch r.Intn(8) {
	case 0:
		b, err = arch.Drop(x.a, name)
		delete(texts, name)
	case 1:
		b, err = arch.Retrain(x.a, r.Intn(80))
	case 2:
		b, err = arch.Compact(x.a)
		if n, _ := arch.Size(b); n > before || err != api.OK {
			t.Errorf("Compact of %v: %d bytes, then %d, %d", x.a, before, n, err)
		}
	default:
		text := wordy(r, r.Intn(90))
		b, err = arch.Put(x.a, name, text, r.Intn(5))
		texts[name] = text
	}
	if err == api.OK {
		x.a, x.texts = b, texts
	}
	return err == api.OK
}

// ask asks for all that is there, and for the archive's own rightness.
func (x *run) ask(t *testing.T) {
	if err := arch.Check(x.a); err != api.OK || len(x.a.Files) != len(x.texts) {
		t.Fatalf("Check(%v): %d", x.a, err)
	}
	size := 0
	for _, d := range x.a.Dicts {
		size += len(d)
	}
	for _, f := range x.a.Files {
		size += len(f.Block)
		want, there := x.texts[f.Name]
		if s, err := arch.Get(x.a, f.Name); s != want || !there || err != api.OK {
			t.Fatalf("Get(%v, %q): %q %d, not %q", x.a, f.Name, s, err, want)
		}
	}
	if n, err := arch.Size(x.a); n != size || err != api.OK {
		t.Errorf("Size(%v): %d %d, not %d", x.a, n, err, size)
	}
}

// TestF4GetTellsLast: by runs of acts; what could not be done has changed nothing.
func TestF4GetTellsLast(t *testing.T) {
	r := rand.New(rand.NewSource(2))
	done, refused := 0, 0
	for range 40 {
		x := run{texts: map[string]string{}}
		for range 50 {
			was := copyOf(x.a)
			from := x.a
			if x.act(t, r) {
				done++
			} else {
				refused++
			}
			if !same(from, was) {
				t.Fatalf("%v has become %v", was, from)
			}
			x.ask(t)
		}
	}
	if done < 500 || refused < 100 {
		t.Errorf("%d done, %d refused", done, refused)
	}
}

// TestP1ZeroWithError: whatever is handed in, a call ends, and an error comes alone.
func TestP1ZeroWithError(t *testing.T) {
	r := rand.New(rand.NewSource(3))
	wild := func() int { return []int{0, 1, 2, 4, -1, 513, math.MinInt, math.MaxInt, r.Int()}[r.Intn(9)] }
	for range 5000 {
		a := sample(t)
		f := &a.Files[r.Intn(4)]
		switch r.Intn(6) {
		case 0:
			f.Dict = wild()
		case 1:
			f.Size, f.Sum = wild(), wild()
		case 2:
			b := make([]byte, r.Intn(14))
			r.Read(b)
			f.Block = string(b)
		case 3:
			a.Dicts = a.Dicts[:r.Intn(4)]
		}
		name := []string{"a", "b.1", "", "x", "\xff"}[r.Intn(5)]
		want := arch.Check(a)
		for _, c := range []func() (api.Archive, api.Errno){
			func() (api.Archive, api.Errno) { return arch.Put(a, name, as(510+r.Intn(5)), wild()) },
			func() (api.Archive, api.Errno) { return arch.Drop(a, name) },
			func() (api.Archive, api.Errno) { return arch.Retrain(a, wild()) },
			func() (api.Archive, api.Errno) { return arch.Compact(a) },
		} {
			if b, err := c(); err != api.OK && !isZero(b) || want != api.OK && err != want || err == api.OK && arch.Check(b) != api.OK {
				t.Errorf("of %v: %v %d", a, b, err)
			}
		}
		if s, err := arch.Range(a, name, wild(), wild()); err != api.OK && s != "" {
			t.Errorf("Range of %v: %q %d", a, s, err)
		}
	}
}

// spoil changes all of an archive's lists, and the room behind them.
func spoil(a api.Archive) {
	dicts, files := a.Dicts[:cap(a.Dicts)], a.Files[:cap(a.Files)]
	for i := range dicts {
		dicts[i] = "spoilt"
	}
	for i := range files {
		files[i] = api.File{Name: "spoilt", Dict: 9}
	}
}

// acts are all calls that answer an archive, each so that it can be done on sample.
func acts() []func(a api.Archive) (api.Archive, api.Errno) {
	return []func(a api.Archive) (api.Archive, api.Errno){
		func(a api.Archive) (api.Archive, api.Errno) { return arch.Put(a, "a", "another hello", 1) },
		func(a api.Archive) (api.Archive, api.Errno) { return arch.Put(a, "aa", "a new hello", 3) },
		func(a api.Archive) (api.Archive, api.Errno) { return arch.Put(a, "z", "a last hello", 0) },
		func(a api.Archive) (api.Archive, api.Errno) { return arch.Drop(a, "a") },
		func(a api.Archive) (api.Archive, api.Errno) { return arch.Drop(a, "c") },
		func(a api.Archive) (api.Archive, api.Errno) { return arch.Retrain(a, 20) },
		arch.Compact,
	}
}

// TestP2OnlyRead: neither an archive that is handed in nor the room behind its lists is changed, and no answer shares them.
func TestP2OnlyRead(t *testing.T) {
	for i, act := range acts() {
		a := sample(t)
		a.Dicts = append(a.Dicts, "spare", "more")[:3]
		a.Files = append(a.Files, api.File{Name: "spare"}, api.File{Name: "more"})[:4]
		dicts, files := slices.Clone(a.Dicts[:5]), slices.Clone(a.Files[:6])
		b, err := act(a)
		if err != api.OK {
			t.Fatalf("act %d: %d", i, err)
		}
		arch.Check(a)
		arch.Get(a, "a")
		arch.Range(a, "a", 1, 2)
		arch.Size(a)
		was := copyOf(b)
		if !slices.Equal(a.Dicts[:5], dicts) || !slices.Equal(a.Files[:6], files) {
			t.Errorf("act %d: %v has been changed", i, a)
		}
		spoil(b)
		if !slices.Equal(a.Dicts[:5], dicts) || !slices.Equal(a.Files[:6], files) {
			t.Errorf("act %d: the answer shares %v", i, a)
		}
		b, _ = act(a)
		spoil(a)
		if !same(b, was) {
			t.Errorf("act %d: %v, not %v", i, b, was)
		}
	}
}

// TestP3SameAgain: what was asked between changes no answer.
func TestP3SameAgain(t *testing.T) {
	var first []api.Archive
	for _, act := range acts() {
		b, _ := act(sample(t))
		first = append(first, b)
	}
	for i, act := range slices.Backward(acts()) {
		arch.Put(filled(t, 12), "fa", "other", 2)
		arch.Retrain(filled(t, 13), 8)
		b, _ := act(sample(t))
		if !same(b, first[i]) {
			t.Errorf("act %d: %v, then %v", i, first[i], b)
		}
	}
}

// TestP4Long: what is too long is told, and not gone through.
func TestP4Long(t *testing.T) {
	long := as(1 << 24)
	for _, c := range []checkCase{
		{"many dictionaries", api.Archive{Dicts: make([]string, 1<<20)}, api.ErrMany},
		{"many files", api.Archive{Files: make([]api.File, 1<<20)}, api.ErrMany},
		{"a long dictionary", api.Archive{Dicts: []string{long}}, api.ErrMany},
		{"a long name", api.Archive{Files: []api.File{{Name: long, Block: "\x00"}}}, api.ErrForm},
		{"a long block", api.Archive{Files: []api.File{{Name: "a", Block: "\x00" + long}}}, api.ErrForm},
	} {
		if err := arch.Check(c.a); err != c.want {
			t.Errorf("%s: %d, not %d", c.name, err, c.want)
		}
	}
	if a, err := arch.Put(api.Archive{}, "a", long, 0); !isZero(a) || err != api.ErrMany {
		t.Errorf("Put: %d", err)
	}
	if a, err := arch.Put(api.Archive{}, long, "", 0); !isZero(a) || err != api.ErrName {
		t.Errorf("Put: %d", err)
	}
}
