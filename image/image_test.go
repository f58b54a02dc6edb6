package image_test

import (
	"math/rand"
	"slices"
	"strings"
	"testing"
	"unsafe"

	"pocketpress/api"
	"pocketpress/arch"
	"pocketpress/block"
	"pocketpress/code"
	"pocketpress/image"
	"pocketpress/nums"
)

// as is n bytes that are alike.
func as(n int) string { return strings.Repeat("a", n) }

// wordy draws a text that has much in it twice.
func wordy(r *rand.Rand, n int) string {
	words := []string{"the ", "word", "abc", "a", " ", "xyz", "\x00", "\xff\x80"}
	s := ""
	for len(s) < n {
		if at := r.Intn(len(s) + 1); r.Intn(3) == 0 {
			s += s[at:min(len(s), at+1+r.Intn(40))]
		}
		s += words[r.Intn(len(words))]
	}
	return s[:n]
}

// file makes a right file, packed by d, whose number is n.
func file(t *testing.T, name, text, d string, n int) api.File {
	t.Helper()
	b, err := block.Pack(d, text)
	if err != api.OK {
		t.Fatalf("Pack(%q, %q): %d", d, text, err)
	}
	return api.File{Name: name, Dict: n, Size: len(text), Sum: nums.Sum(text), Block: b}
}

// sample is an archive of three dictionaries and four files.
func sample(t *testing.T) api.Archive {
	t.Helper()
	return api.Archive{
		Dicts: []string{"hello ", "", "the word"},
		Files: []api.File{
			file(t, "a", "hello hello hello hello ", "hello ", 1),
			file(t, "b.1", "", "the word", 3),
			file(t, "b.2", "the word is the word", "the word", 3),
			file(t, "c", "as it is", "", 0),
		},
	}
}

// turned is what sample becomes by a turn.
func turned(t *testing.T, turn func(a *api.Archive)) api.Archive {
	a := sample(t)
	turn(&a)
	return a
}

// drawn is a drawn archive: some acts, one behind the other.
func drawn(r *rand.Rand) api.Archive {
	var a api.Archive
	for range r.Intn(14) {
		b, err := a, api.OK
		switch name := string(rune('a' + r.Intn(14))); r.Intn(6) {
		case 0:
			b, err = arch.Drop(a, name)
		case 1:
			b, err = arch.Retrain(a, r.Intn(100))
		default:
			b, err = arch.Put(a, name, wordy(r, r.Intn(200)), r.Intn(5))
		}
		if err == api.OK {
			a = b
		}
	}
	return a
}

// same asks for all but for what a nil list and an empty one differ in.
func same(a, b api.Archive) bool {
	return slices.Equal(a.Dicts, b.Dicts) && slices.Equal(a.Files, b.Files)
}

// isZero asks whether there is nothing in an archive.
func isZero(a api.Archive) bool { return len(a.Dicts) == 0 && len(a.Files) == 0 }

// number is a number as bytes, by a way of its own.
func number(n int) string {
	if n < 128 {
		return string([]byte{byte(n)})
	}
	return string([]byte{byte(n%128 + 128)}) + number(n/128)
}

// wantSave is the bytes of an archive, right or not, however many.
func wantSave(a api.Archive) string {
	s := "press" + number(len(a.Dicts))
	for _, d := range a.Dicts {
		s += number(len(d)) + d
	}
	s += number(len(a.Files))
	for _, f := range a.Files {
		s += number(len(f.Name)) + f.Name + number(f.Dict) + number(f.Size) + number(f.Sum) + number(len(f.Block)) + f.Block
	}
	return s
}

// isImage asks whether these are the bytes of a right archive: it goes through them one by one, and makes them again.
func isImage(s string) bool {
	all := s
	ok := len(s) <= api.MaxImage && strings.HasPrefix(s, "press")
	if !ok {
		return false
	}
	s = s[5:]
	num := func() int {
		n := 0
		for shift := 0; ; shift += 7 {
			if s == "" || shift > 28 {
				ok = false
				return 0
			}
			c := s[0]
			s = s[1:]
			n += int(c%128) << shift
			if c < 128 {
				return n
			}
		}
	}
	text := func() string {
		n := num()
		if n > len(s) {
			ok = false
			return ""
		}
		t := s[:n]
		s = s[n:]
		return t
	}
	var a api.Archive
	for n := num(); ok && n > 0; n-- {
		a.Dicts = append(a.Dicts, text())
	}
	for n := num(); ok && n > 0; n-- {
		var f api.File
		f.Name, f.Dict, f.Size, f.Sum, f.Block = text(), num(), num(), num(), text()
		a.Files = append(a.Files, f)
	}
	return ok && arch.Check(a) == api.OK && wantSave(a) == all
}

func askSave(t *testing.T, a api.Archive) {
	t.Helper()
	s, err := image.Save(a)
	if want := wantSave(a); s != want || err != api.OK {
		t.Fatalf("Save(%v): %q %d, not %q", a, s, err, want)
	}
	b, err := image.Open(s)
	if !same(a, b) || err != api.OK {
		t.Fatalf("Open(%q): %v %d, not %v", s, b, err, a)
	}
}

func TestG1SaveKnown(t *testing.T) {
	for _, c := range []struct {
		a    api.Archive
		want string
	}{
		{api.Archive{}, "press\x00\x00"},
		{api.Archive{Dicts: []string{}, Files: []api.File{}}, "press\x00\x00"},
		{api.Archive{Dicts: []string{""}}, "press\x01\x00\x00"},
		{api.Archive{Dicts: []string{"ab", "", "c"}}, "press\x03\x02ab\x00\x01c\x00"},
		{api.Archive{Dicts: []string{as(256)}}, "press\x01\x80\x02" + as(256) + "\x00"},
		{api.Archive{Files: []api.File{file(t, "a", "", "", 0)}}, "press\x00\x01\x01a\x00\x00\x00\x01\x00"},
		// The sum is 97 + 2*98 + 3*99.
		{api.Archive{Files: []api.File{file(t, "a.b", "abc", "", 0)}}, "press\x00\x01\x03a.b\x00\x03\xce\x04\x04\x00abc"},
		{api.Archive{Dicts: []string{"x", "hello "}, Files: []api.File{file(t, "h", "hello hello ", "hello ", 2), file(t, "i", "", "x", 1)}},
			"press\x02\x01x\x06hello \x02\x01h\x02\x0c" + number(nums.Sum("hello hello ")) + "\x03\x01\x19\x06\x01i\x01\x00\x00\x01\x00"},
	} {
		if s, err := image.Save(c.a); s != c.want || err != api.OK {
			t.Errorf("Save(%v): %q %d, not %q", c.a, s, err, c.want)
		}
		if a, err := image.Open(c.want); !same(a, c.a) || err != api.OK {
			t.Errorf("Open(%q): %v %d, not %v", c.want, a, err, c.a)
		}
	}
}

func wrongs(t *testing.T) []struct {
	name string
	a    api.Archive
	want api.Errno
} {
	thirteen := api.Archive{}
	for i := range 13 {
		thirteen.Files = append(thirteen.Files, file(t, string(rune('a'+i)), "", "", 0))
	}
	return []struct {
		name string
		a    api.Archive
		want api.Errno
	}{
		{"five dictionaries", api.Archive{Dicts: make([]string, 5)}, api.ErrMany},
		{"a dictionary of 257", api.Archive{Dicts: []string{as(257)}}, api.ErrMany},
		{"13 files", thirteen, api.ErrMany},
		{"no name", turned(t, func(a *api.Archive) { a.Files[0].Name = "" }), api.ErrForm},
		{"a name that is none", turned(t, func(a *api.Archive) { a.Files[3].Name = "C" }), api.ErrForm},
		{"a name of 13", turned(t, func(a *api.Archive) { a.Files[3].Name = "c234567890123" }), api.ErrForm},
		{"names that fall", turned(t, func(a *api.Archive) { a.Files[3].Name = "b" }), api.ErrForm},
		{"a name twice", turned(t, func(a *api.Archive) { a.Files[3].Name = "b.2" }), api.ErrForm},
		{"no such dictionary", turned(t, func(a *api.Archive) { a.Files[0].Dict = 4 }), api.ErrForm},
		{"another dictionary", turned(t, func(a *api.Archive) { a.Files[0].Dict = 2 }), api.ErrForm},
		{"another size", turned(t, func(a *api.Archive) { a.Files[0].Size++ }), api.ErrForm},
		{"another sum", turned(t, func(a *api.Archive) { a.Files[2].Sum++ }), api.ErrForm},
		{"a sum that wraps round", turned(t, func(a *api.Archive) { a.Files[2].Sum += 1 << 16 }), api.ErrForm},
		{"no block", turned(t, func(a *api.Archive) { a.Files[1].Block = "" }), api.ErrForm},
		{"a block of another kind", turned(t, func(a *api.Archive) { a.Files[1].Block = "\x03" }), api.ErrForm},
		{"a block with something behind", turned(t, func(a *api.Archive) { a.Files[0].Block += "\x00" }), api.ErrForm},
	}
}

// TestG1Wrong: Save tells what Check tells; the bytes that it would have are nobody's, whatever is wrong.
func TestG1Wrong(t *testing.T) {
	for _, c := range wrongs(t) {
		if s, err := image.Save(c.a); s != "" || err != c.want {
			t.Errorf("Save of %s: %q %d, not %d", c.name, s, err, c.want)
		}
		if a, err := image.Open(wantSave(c.a)); !isZero(a) || err != api.ErrForm {
			t.Errorf("Open of %s: %v %d", c.name, a, err)
		}
	}
	negative := turned(t, func(a *api.Archive) { a.Files[0].Dict = -1 })
	if s, err := image.Save(negative); s != "" || err != api.ErrForm {
		t.Errorf("Save: %q %d", s, err)
	}
}

// wide is a right file of 512 bytes with a long block: each half byte has 15 bits.
func wide(t *testing.T, name string) api.File {
	t.Helper()
	text := as(512)
	var lengths [api.Signs]int
	for i := range lengths {
		lengths[i] = api.MaxLen
	}
	words, err := code.Write(lengths, number(2*512)+text)
	if err != api.OK {
		t.Fatalf("Write: %d", err)
	}
	b := "\x02" + strings.Repeat("\xff", 8) + number(2+512) + words
	return api.File{Name: name, Size: 512, Sum: nums.Sum(text), Block: b}
}

// long is an archive whose image has so many bytes: its last dictionary has as many as are wanted.
func long(t *testing.T, size int) api.Archive {
	t.Helper()
	a := api.Archive{Dicts: []string{as(256), ""}}
	for i := range 8 {
		a.Files = append(a.Files, wide(t, string(rune('a'+i))))
	}
	n := 300
	a.Files = append(a.Files, api.File{Name: "z", Size: n, Sum: nums.Sum(as(n)), Block: "\x00" + as(n)})
	for n := range api.MaxDict + 1 {
		a.Dicts[1] = as(n)
		if len(wantSave(a)) == size {
			return a
		}
	}
	t.Fatalf("none of %d bytes", size)
	return a
}

func TestG1Longest(t *testing.T) {
	for _, less := range []int{0, 1, 2} {
		a := long(t, api.MaxImage-less)
		askSave(t, a)
	}
	for _, more := range []int{1, 2, 20} {
		a := long(t, api.MaxImage+more)
		if err := arch.Check(a); err != api.OK {
			t.Fatalf("Check: %d", err)
		}
		if s, err := image.Save(a); s != "" || err != api.ErrMany {
			t.Errorf("Save: %d bytes %d", len(s), err)
		}
		if b, err := image.Open(wantSave(a)); !isZero(b) || err != api.ErrMany {
			t.Errorf("Open: %v %d", b, err)
		}
	}
}

func TestG1OpenMany(t *testing.T) {
	for _, s := range []string{as(api.MaxImage + 1), "press\x00\x00" + as(api.MaxImage), strings.Repeat("\x00", 2*api.MaxImage)} {
		if a, err := image.Open(s); !isZero(a) || err != api.ErrMany {
			t.Errorf("Open of %d bytes: %v %d", len(s), a, err)
		}
	}
	for _, s := range []string{as(api.MaxImage), "press\x00\x00" + as(api.MaxImage-7)} {
		if a, err := image.Open(s); !isZero(a) || err != api.ErrForm {
			t.Errorf("Open of %d bytes: %v %d", len(s), a, err)
		}
	}
}

func TestG1OpenNone(t *testing.T) {
	for _, s := range []string{
		"", "p", "press", "press\x00", "pres\x00\x00", "Press\x00\x00", "xpress\x00\x00", "press\x00\x00\x00", "press\x00\x00x", "\x05press\x00\x00",
		"press\x80\x00\x00", "press\x00\x80\x00", "press\x81\x00\x00\x00", "press\x80", "press\x00\x80",
		"press\x01\x00", "press\x01\x02a\x00", "press\x01\x82\x00ab\x00", "press\x05\x00\x00\x00\x00\x00\x00",
		"press\xff\xff\xff\xff\x07" + strings.Repeat("\x00", 500), "press\x00\xff\xff\xff\xff\x07", "press\xff\xff\xff\xff\x0f\x00",
		"press\x00\x01", "press\x00\x01\x01a\x00\x00\x00", "press\x00\x01\x01a\x00\x00\x00\x01", "press\x00\x01\x01a\x00\x00\x00\x02\x00",
		"press\x00\x01\x01a\x00\x00\x00\x01\x00\x00", "press\x00\x01\x01a\x00\x00\x00\x00", "press\x00\x01\x01a\x00\x00\x00\x81\x00\x00",
		"press\x00\x01\x81\x00a\x00\x00\x00\x01\x00", "press\x00\x01\x01a\x80\x00\x00\x00\x01\x00", "press\x00\x01\x01a\x00\x80\x00\x00\x01\x00",
		"press\x00\x01\x01a\x00\x00\x80\x00\x01\x00", "press\x00\x01\x01a\x01\x00\x00\x01\x00", "press\x00\x01\x01A\x00\x00\x00\x01\x00",
		"press\x00\x01\x01a\x00\x00\x00\xff\xff\xff\xff\x07\x00", "press\x00\x02\x01a\x00\x00\x00\x01\x00",
		"press\x00\x01\x01a\x00\x01\x62\x02\x00a", "press\x00\x01\x01a\x00\x02\x61\x02\x00a",
	} {
		if a, err := image.Open(s); !isZero(a) || err != api.ErrForm {
			t.Errorf("Open(%q): %v %d", s, a, err)
		}
	}
}

// TestG1OpenCut: no part of an image that it begins with is one, nor is it one with something behind.
func TestG1OpenCut(t *testing.T) {
	s := wantSave(sample(t))
	for cut := range len(s) {
		if a, err := image.Open(s[:cut]); !isZero(a) || err != api.ErrForm {
			t.Errorf("Open of %d bytes: %v %d", cut, a, err)
		}
	}
	for c := range 256 {
		if a, err := image.Open(s + string([]byte{byte(c)})); !isZero(a) || err != api.ErrForm {
			t.Errorf("Open with %d behind: %v %d", c, a, err)
		}
	}
}

// TestG1OpenEachByte: of each byte of an image all others in its place.
func TestG1OpenEachByte(t *testing.T) {
	s := wantSave(sample(t))
	opened := 0
	for i := range len(s) {
		for c := range 256 {
			x := s[:i] + string([]byte{byte(c)}) + s[i+1:]
			a, err := image.Open(x)
			if err == api.OK {
				opened++
			}
			if isImage(x) != (err == api.OK) || err == api.OK && wantSave(a) != x || err != api.OK && (err != api.ErrForm || !isZero(a)) {
				t.Errorf("Open(%q): %v %d", x, a, err)
			}
		}
	}
	// More than the image itself are right: other names, and dictionaries whose bytes no file copies.
	if opened <= len(s) {
		t.Errorf("%d opened", opened)
	}
}

// TestG2OpenOfSave: drawn archives, and then images that were changed.
func TestG2OpenOfSave(t *testing.T) {
	r := rand.New(rand.NewSource(1))
	opened := 0
	for range 200 {
		a := drawn(r)
		askSave(t, a)
		s := wantSave(a)
		for range 20 {
			x := []byte(s)
			for range 1 + r.Intn(2) {
				i := r.Intn(len(x))
				switch r.Intn(3) {
				case 0:
					x[i] = byte(r.Intn(256))
				case 1:
					x = slices.Insert(x, i, byte(r.Intn(6)))
				default:
					x = slices.Delete(x, i, min(len(x), i+1+r.Intn(3)))
				}
				if len(x) == 0 {
					break
				}
			}
			b, err := image.Open(string(x))
			if isImage(string(x)) != (err == api.OK) {
				t.Errorf("Open(%q): %d", x, err)
			}
			if err == api.OK {
				opened++
				askSave(t, b)
			}
		}
	}
	if opened < 30 {
		t.Errorf("%d opened", opened)
	}
}

// TestG2AnyBlocks: an archive is saved as it is, though Pack would make other blocks of its texts.
func TestG2AnyBlocks(t *testing.T) {
	askSave(t, api.Archive{Files: []api.File{wide(t, "a"), wide(t, "b")}})
	askSave(t, api.Archive{Dicts: []string{"same", "same", ""}, Files: []api.File{
		{Name: "a", Dict: 3, Block: "\x01"},
		{Name: "b", Dict: 2, Size: 8, Sum: nums.Sum("samesame"), Block: "\x00samesame"},
		{Name: "c", Dict: 0, Size: 4, Sum: nums.Sum("same"), Block: "\x01\x08same"},
	}})
}

// TestG2Full: as many dictionaries and files as may be, of as many bytes.
func TestG2Full(t *testing.T) {
	a := api.Archive{Dicts: slices.Repeat([]string{as(256)}, 4)}
	for i := range 12 {
		n := i % 5
		d := append([]string{""}, a.Dicts...)[n]
		a.Files = append(a.Files, file(t, "name.......", wordy(rand.New(rand.NewSource(int64(i))), 512), d, n))
		a.Files[i].Name += string(rune('a' + i))
	}
	askSave(t, a)
}

// TestP1ZeroWithError: whatever is handed in, a call ends, and an error comes alone.
func TestP1ZeroWithError(t *testing.T) {
	r := rand.New(rand.NewSource(2))
	for range 20000 {
		b := make([]byte, r.Intn(40))
		for i := range b {
			b[i] = byte(r.Intn(4))
			if r.Intn(8) == 0 {
				b[i] = byte(r.Intn(256))
			}
		}
		s := "press" + string(b)
		a, err := image.Open(s)
		if isImage(s) != (err == api.OK) || err != api.OK && (err != api.ErrForm || !isZero(a)) {
			t.Errorf("Open(%q): %v %d", s, a, err)
		}
	}
}

// TestP2OnlyRead: neither an archive that is handed in nor the room behind its lists is changed.
func TestP2OnlyRead(t *testing.T) {
	a := sample(t)
	a.Dicts = append(a.Dicts, "spare", "more")[:3]
	a.Files = append(a.Files, api.File{Name: "spare"}, api.File{Name: "more"})[:4]
	dicts, files := slices.Clone(a.Dicts[:5]), slices.Clone(a.Files[:6])
	image.Save(a)
	if !slices.Equal(a.Dicts[:5], dicts) || !slices.Equal(a.Files[:6], files) {
		t.Errorf("%v has been changed", a)
	}
}

// TestP2NewMemory: the bytes that an image was opened of may become others, what was opened stays.
func TestP2NewMemory(t *testing.T) {
	want := sample(t)
	b := []byte(wantSave(want))
	a, err := image.Open(unsafe.String(&b[0], len(b)))
	if err != api.OK {
		t.Fatalf("Open: %d", err)
	}
	for i := range b {
		b[i] = '!'
	}
	if !same(a, want) {
		t.Errorf("%v, not %v", a, want)
	}
}

// TestP3SameAgain: what was asked, and what was done to an answer, changes no later one.
func TestP3SameAgain(t *testing.T) {
	s := wantSave(sample(t))
	for range 3 {
		a, err := image.Open(s)
		if !same(a, sample(t)) || err != api.OK {
			t.Errorf("Open: %v %d", a, err)
		}
		for i := range a.Files {
			a.Files[i] = api.File{Name: "spoilt"}
		}
		for i := range a.Dicts {
			a.Dicts[i] = "spoilt"
		}
		image.Save(a)
		image.Open(s + "\x00")
		if u, err := image.Save(sample(t)); u != s || err != api.OK {
			t.Errorf("Save: %q %d", u, err)
		}
	}
}

// TestP4Long: what is too long is told, and not gone through.
func TestP4Long(t *testing.T) {
	if a, err := image.Open("press" + as(1<<26)); !isZero(a) || err != api.ErrMany {
		t.Errorf("Open: %d", err)
	}
	if s, err := image.Save(api.Archive{Files: make([]api.File, 1<<20)}); s != "" || err != api.ErrMany {
		t.Errorf("Save: %d", err)
	}
}
