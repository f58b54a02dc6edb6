package log_test

import (
	"math"
	"math/rand"
	"slices"
	"strings"
	"testing"
	"unsafe"

	"pocketpress/api"
	"pocketpress/arch"
	"pocketpress/log"
)

// as is n bytes that are alike.
func as(n int) string { return strings.Repeat("a", n) }

// wordy draws a text that has much in it twice.
func wordy(r *rand.Rand, n int) string {
	words := []string{"the ", "word", "abc", "a", " ", "xyz", "\x00", "\xff\x80"}
	s := ""
	for len(s) < n {
		if at := r.Intn(len(s) + 1); r.Intn(3) == 0 {
			s += s[at:min(len(s), at+1+r.Intn(40))]
		}
		s += words[r.Intn(len(words))]
	}
	return s[:n]
}

// same asks for all but for what a nil list and an empty one differ in.
func same(a, b api.Archive) bool {
	return slices.Equal(a.Dicts, b.Dicts) && slices.Equal(a.Files, b.Files)
}

// isZero asks whether there is nothing in an archive.
func isZero(a api.Archive) bool { return len(a.Dicts) == 0 && len(a.Files) == 0 }

// number is a number as bytes, by a way of its own.
func number(n int) string {
	if n < 128 {
		return string([]byte{byte(n)})
	}
	return string([]byte{byte(n%128 + 128)}) + number(n/128)
}

// wantWrite is the bytes of an act that has some.
func wantWrite(acts ...api.Act) string {
	s := ""
	for _, x := range acts {
		b := number(x.Kind) + number(x.N) + number(len(x.Name)) + x.Name + number(len(x.Text)) + x.Text
		s += number(len(b)) + b
	}
	return s
}

// wantFirst finds the act that s begins with: it takes numbers as they come, and asks afterwards whether the bytes are those.
func wantFirst(s string) (api.Act, int) {
	all := s
	num := func() int {
		n := 0
		for shift := 0; s != ""; shift += 7 {
			c := s[0]
			s = s[1:]
			n += int(c%128) << min(shift, 40)
			if c < 128 {
				break
			}
		}
		return n
	}
	text := func() string {
		n := min(num(), len(s))
		t := s[:n]
		s = s[n:]
		return t
	}
	num()
	x := api.Act{Kind: num(), N: num(), Name: text(), Text: text()}
	if x.Kind > api.MaxNum || x.N > api.MaxNum || len(x.Name) > api.MaxText || len(x.Text) > api.MaxText {
		return api.Act{}, 0
	}
	if b := wantWrite(x); strings.HasPrefix(all, b) {
		return x, len(b)
	}
	return api.Act{}, 0
}

func wantReplay(s string) ([]api.Act, int) {
	var l []api.Act
	at := 0
	for len(l) < api.MaxActs {
		x, n := wantFirst(s[at:])
		if n == 0 {
			break
		}
		l = append(l, x)
		at += n
	}
	return l, at
}

// wantDone is what acts make of an empty archive.
func wantDone(acts []api.Act) api.Archive {
	var a api.Archive
	for _, x := range acts {
		if b, err := wantDo(a, x); err == api.OK {
			a = b
		}
	}
	return a
}

func wantDo(a api.Archive, x api.Act) (api.Archive, api.Errno) {
	switch x.Kind {
	case 1:
		return arch.Put(a, x.Name, x.Text, x.N)
	case 2:
		return arch.Drop(a, x.Name)
	case 3:
		return arch.Retrain(a, x.N)
	case 4:
		return arch.Compact(a)
	}
	return api.Archive{}, api.ErrKind
}

// drawAct draws an act that may well be one that can't be done.
func drawAct(r *rand.Rand) api.Act {
	x := api.Act{Kind: api.ActPut, N: r.Intn(3), Name: []string{"a", "b", "c.1", "A"}[r.Intn(4)], Text: wordy(r, r.Intn(60))}
	if r.Intn(2) == 0 {
		x.Kind = r.Intn(6)
	}
	if x.Kind == api.ActTrain {
		x.N = r.Intn(40)
	}
	return x
}

// sampleActs can be done one behind the other.
func sampleActs() []api.Act {
	return []api.Act{
		{Kind: api.ActPut, Name: "a", Text: "some words of a"},
		{Kind: api.ActPut, Name: "b.2", Text: "some words of b"},
		{Kind: api.ActTrain, N: 20},
		{Kind: api.ActPut, Name: "c", N: 1, Text: "some words of c, many words"},
		{Kind: api.ActDrop, Name: "a"},
		{Kind: api.ActTrain, N: 40, Name: "counts for nothing"},
		{Kind: api.ActCompact, N: 9, Text: "nor does this"},
		{Kind: api.ActPut, Name: "b.2", N: 1, Text: ""},
	}
}

func TestH1Do(t *testing.T) {
	var a api.Archive
	for i, x := range sampleActs() {
		want, _ := wantDo(a, x)
		b, err := log.Do(a, x)
		if !same(b, want) || err != api.OK {
			t.Fatalf("act %d: %v %d, not %v", i, b, err, want)
		}
		a = b
	}
	if len(a.Dicts) != 1 || len(a.Files) != 2 {
		t.Errorf("%v", a)
	}
	for _, c := range []struct{ name, want string }{{"b.2", ""}, {"c", "some words of c, many words"}} {
		if s, err := arch.Get(a, c.name); s != c.want || err != api.OK {
			t.Errorf("Get(%q): %q %d", c.name, s, err)
		}
	}
}

// TestH1NotNamed: what an act of a kind has no use for counts for nothing, whatever it is.
func TestH1NotNamed(t *testing.T) {
	a := wantDone(sampleActs())
	for _, c := range [][2]api.Act{
		{{Kind: api.ActDrop, Name: "c"}, {Kind: api.ActDrop, Name: "c", N: -9, Text: as(600)}},
		{{Kind: api.ActTrain, N: 30}, {Kind: api.ActTrain, N: 30, Name: as(600), Text: as(600)}},
		{{Kind: api.ActCompact}, {Kind: api.ActCompact, N: math.MinInt, Name: as(600), Text: as(600)}},
	} {
		want, _ := wantDo(a, c[0])
		if b, err := log.Do(a, c[1]); !same(b, want) || err != api.OK {
			t.Errorf("Do(%v): %v %d, not %v", c[0], b, err, want)
		}
	}
}

func TestH1Errors(t *testing.T) {
	wrong := api.Archive{Files: []api.File{{Name: "a"}}}
	full := api.Archive{Dicts: make([]string, 4)}
	crowded := api.Archive{Dicts: make([]string, 5)}
	for _, c := range []struct {
		why  string
		a    api.Archive
		x    api.Act
		want api.Errno
	}{
		{"kind 0", api.Archive{}, api.Act{}, api.ErrKind},
		{"kind 5", api.Archive{}, api.Act{Kind: 5}, api.ErrKind},
		{"kind -1", api.Archive{}, api.Act{Kind: -1}, api.ErrKind},
		{"the greatest kind", api.Archive{}, api.Act{Kind: math.MaxInt}, api.ErrKind},
		{"a kind that wraps round", api.Archive{}, api.Act{Kind: 1 + 1<<32}, api.ErrKind},
		{"no kind, a wrong archive", wrong, api.Act{Kind: 7}, api.ErrKind},
		{"a wrong archive", wrong, api.Act{Kind: api.ActPut}, api.ErrForm},
		{"a wrong archive", wrong, api.Act{Kind: api.ActDrop}, api.ErrForm},
		{"a wrong archive", wrong, api.Act{Kind: api.ActTrain, N: -1}, api.ErrForm},
		{"a wrong archive", wrong, api.Act{Kind: api.ActCompact}, api.ErrForm},
		{"five dictionaries", crowded, api.Act{Kind: api.ActCompact}, api.ErrMany},
		{"no name", api.Archive{}, api.Act{Kind: api.ActPut, N: 1}, api.ErrName},
		{"no such dictionary", api.Archive{}, api.Act{Kind: api.ActPut, N: 1, Name: "a"}, api.ErrRange},
		{"a long text", api.Archive{}, api.Act{Kind: api.ActPut, Name: "a", Text: as(513)}, api.ErrMany},
		{"no such file", api.Archive{}, api.Act{Kind: api.ActDrop, Name: "a"}, api.ErrNone},
		{"too great a dictionary", api.Archive{}, api.Act{Kind: api.ActTrain, N: 257}, api.ErrRange},
		{"too many dictionaries", full, api.Act{Kind: api.ActTrain, N: 8}, api.ErrMany},
	} {
		if b, err := log.Do(c.a, c.x); !isZero(b) || err != c.want {
			t.Errorf("%s: %v %d, not %d", c.why, b, err, c.want)
		}
	}
}

func TestH2WriteKnown(t *testing.T) {
	for _, c := range []struct {
		x    api.Act
		want string
	}{
		{api.Act{}, "\x04\x00\x00\x00\x00"},
		{api.Act{Kind: api.ActTrain, N: 2, Name: "a"}, "\x05\x03\x02\x01a\x00"},
		{api.Act{Kind: 1, N: 2, Name: "a"}, "\x05\x01\x02\x01a\x00"},
		{api.Act{Kind: api.ActPut, Name: "a.b", Text: "\x00text"}, "\x0c\x01\x00\x03a.b\x05\x00text"},
		{api.Act{Kind: 300, N: 128, Name: "No Name", Text: ""}, "\x0d\xac\x02\x80\x01\x07No Name\x00"},
		{api.Act{Kind: api.MaxNum, N: api.MaxNum}, "\x0c\xff\xff\xff\xff\x07\xff\xff\xff\xff\x07\x00\x00"},
		{api.Act{Text: as(123)}, "\x7f\x00\x00\x00\x7b" + as(123)},
		{api.Act{Text: as(124)}, "\x80\x01\x00\x00\x00\x7c" + as(124)},
		{api.Act{Name: as(512), Text: as(512)}, "\x86\x08\x00\x00\x80\x04" + as(512) + "\x80\x04" + as(512)},
	} {
		if s, err := log.Write(c.x); s != c.want || err != api.OK {
			t.Errorf("Write(%v): %q %d, not %q", c.x, s, err, c.want)
		}
		if l, n, err := log.Replay(c.want); !slices.Equal(l, []api.Act{c.x}) || n != len(c.want) || err != api.OK {
			t.Errorf("Replay(%q): %v %d %d", c.want, l, n, err)
		}
	}
}

func TestH2WriteErrors(t *testing.T) {
	for _, c := range []struct {
		why  string
		x    api.Act
		want api.Errno
	}{
		{"kind -1", api.Act{Kind: -1}, api.ErrRange},
		{"too great a kind", api.Act{Kind: api.MaxNum + 1}, api.ErrRange},
		{"the greatest kind", api.Act{Kind: math.MaxInt}, api.ErrRange},
		{"n -1", api.Act{Kind: 1, N: -1}, api.ErrRange},
		{"too great an n", api.Act{Kind: 1, N: api.MaxNum + 1}, api.ErrRange},
		{"the least n", api.Act{Kind: 1, N: math.MinInt}, api.ErrRange},
		{"a name of 513", api.Act{Kind: 1, Name: as(513)}, api.ErrMany},
		{"a text of 513", api.Act{Kind: 1, Text: as(513)}, api.ErrMany},
		{"both, of a kind that has use for none", api.Act{Kind: 4, Name: as(513), Text: as(513)}, api.ErrMany},
		{"a long name and n -1", api.Act{N: -1, Name: as(513)}, api.ErrRange},
		{"a long text and kind -1", api.Act{Kind: -1, Text: as(513)}, api.ErrRange},
	} {
		if s, err := log.Write(c.x); s != "" || err != c.want {
			t.Errorf("%s: %q %d, not %d", c.why, s, err, c.want)
		}
	}
}

func askReplay(t *testing.T, s string) {
	t.Helper()
	want, size := wantReplay(s)
	if l, n, err := log.Replay(s); !slices.Equal(l, want) || n != size || err != api.OK {
		t.Fatalf("Replay(%q): %v %d %d, not %v %d", s, l, n, err, want, size)
	}
}

// TestH2ReplayNone: what is no act ends the reading, wherever it stands, though acts stand behind it.
func TestH2ReplayNone(t *testing.T) {
	ahead := sampleActs()[:3]
	for _, s := range []string{
		"", "\x00", "\x04", "\x04\x00\x00\x00", "\x03\x00\x00\x00", "\x03\x00\x00\x00\x00", "\x05\x00\x00\x00\x00", "\x05\x00\x00\x00\x00\x00",
		"\x84\x00\x00\x00\x00\x00", "\x05\x80\x00\x00\x00\x00", "\x05\x00\x80\x00\x00\x00", "\x05\x00\x00\x80\x00\x00", "\x05\x00\x00\x00\x80\x00",
		"\x04\x00\x00\x01\x00", "\x04\x00\x00\x00\x01a", "\x05\x00\x00\x01a", "\x05\x01\x02\x02a\x00", "\x06\x01\x02\x01a\x02a",
		"\x08\xff\xff\xff\xff\x08\x00\x00\x00", "\xff\xff\xff\xff\x07\x00\x00\x00\x00", "\x80\x80\x80\x80\x80\x00", "\xff",
		"\x87\x04\x00\x00\x00\x81\x04" + as(513) + "\x00", "\x86\x04\x00\x00\x81\x04" + as(513) + "\x00", "\x85\x04\x00\x00\x00\x81\x04" + as(512), "hello",
	} {
		if l, n, err := log.Replay(s); len(l) != 0 || n != 0 || err != api.OK {
			t.Errorf("Replay(%q): %v %d %d", s, l, n, err)
		}
		all := wantWrite(ahead...)
		if l, n, err := log.Replay(all + s); !slices.Equal(l, ahead) || n != len(all) || err != api.OK {
			t.Errorf("Replay with %q behind: %v %d %d", s, l, n, err)
		}
		if s != "" {
			askReplay(t, s+wantWrite(ahead...))
		}
	}
}

func TestH2ReplayActs(t *testing.T) {
	all := slices.Repeat([]api.Act{{Kind: 1, Name: "a"}, {Kind: 7, N: 200, Text: "any kind will do"}}, 60)
	for _, n := range []int{0, 1, 99, 100, 101, 120} {
		want := all[:min(n, 100)]
		size := len(wantWrite(want...))
		l, k, err := log.Replay(wantWrite(all[:n]...))
		if !slices.Equal(l, want) || k != size || err != api.OK {
			t.Errorf("of %d: %d, %d of %d bytes %d", n, len(l), k, size, err)
		}
		// Behind the last act that is told nothing is read.
		if l, k, err = log.Replay(wantWrite(want...) + "\xff\xff"); !slices.Equal(l, want) || k != size || err != api.OK {
			t.Errorf("of %d and more: %d, %d of %d bytes %d", n, len(l), k, size, err)
		}
	}
}

func TestH2ReplayMany(t *testing.T) {
	one := wantWrite(api.Act{Kind: 1, Name: "a"})
	for _, s := range []string{as(api.MaxImage), one + as(api.MaxImage-len(one))} {
		askReplay(t, s)
		if l, n, err := log.Replay(s + "a"); len(l) != 0 || n != 0 || err != api.ErrMany {
			t.Errorf("Replay: %v %d %d", l, n, err)
		}
		if a, n, err := log.Recover(s + "a"); !isZero(a) || n != 0 || err != api.ErrMany {
			t.Errorf("Recover: %v %d %d", a, n, err)
		}
		if u, err := log.Store(s+"a", api.Act{Kind: 4}); u != "" || err != api.ErrMany {
			t.Errorf("Store: %q %d", u, err)
		}
	}
}

// TestH2ReplayDrawn: logs in which bytes were changed, added or left out.
func TestH2ReplayDrawn(t *testing.T) {
	r := rand.New(rand.NewSource(1))
	for range 3000 {
		var acts []api.Act
		for range 1 + r.Intn(6) {
			acts = append(acts, drawAct(r))
		}
		s := wantWrite(acts...)
		askReplay(t, s)
		i := r.Intn(len(s))
		c := string([]byte{byte(r.Intn(256))})
		askReplay(t, s[:i]+c+s[i+1:])
		askReplay(t, s[:i]+c+s[i:])
		askReplay(t, s[:i]+s[i+1:])
		askReplay(t, s[i:])
	}
}

// TestH3Recover: acts that can't be done change nothing, and count.
func TestH3Recover(t *testing.T) {
	acts := sampleActs()
	bad := []api.Act{{}, {Kind: 9}, {Kind: 1, Name: "A"}, {Kind: 1, Name: "a", N: 4}, {Kind: 2, Name: "zz"}, {Kind: 3, N: 257}}
	var mixed []api.Act
	for i, x := range acts {
		mixed = append(mixed, bad[i%len(bad)], x, bad[(i+1)%len(bad)])
	}
	want := wantDone(acts)
	if a, n, err := log.Recover(wantWrite(acts...)); !same(a, want) || n != 8 || err != api.OK {
		t.Errorf("%v %d %d", a, n, err)
	}
	if a, n, err := log.Recover(wantWrite(mixed...)); !same(a, want) || n != 24 || err != api.OK {
		t.Errorf("%v %d %d", a, n, err)
	}
	if a, n, err := log.Recover(wantWrite(bad...)); !isZero(a) || n != 6 || err != api.OK {
		t.Errorf("%v %d %d", a, n, err)
	}
	if a, n, err := log.Recover(""); !isZero(a) || n != 0 || err != api.OK {
		t.Errorf("%v %d %d", a, n, err)
	}
	if a, n, err := log.Recover(strings.Repeat(wantWrite(acts[0]), 130)); len(a.Files) != 1 || n != 100 || err != api.OK {
		t.Errorf("%v %d %d", a, n, err)
	}
}

func TestH3Store(t *testing.T) {
	s := ""
	for i, x := range sampleActs() {
		want := s + wantWrite(x)
		// What stands behind the acts is left out.
		for _, behind := range []string{"", "\x00", "\x05\x01", "\xff\xff\xff", as(9000)} {
			if u, err := log.Store(s+behind, x); u != want || err != api.OK {
				t.Errorf("act %d: %q %d, not %q", i, u, err, want)
			}
		}
		s = want
	}
	// An act in the log that can't be done stays there.
	bad := wantWrite(api.Act{Kind: 9}, api.Act{Kind: 2, Name: "a"})
	x := api.Act{Kind: 1, Name: "a"}
	if u, err := log.Store(bad+"\x00", x); u != bad+wantWrite(x) || err != api.OK {
		t.Errorf("%q %d", u, err)
	}
}

func TestH3StoreErrors(t *testing.T) {
	s := wantWrite(sampleActs()...)
	hundred := wantWrite(slices.Repeat([]api.Act{{Kind: 4}}, 100)...)
	for _, c := range []struct {
		why, s string
		x      api.Act
		want   api.Errno
	}{
		{"no kind", s, api.Act{Kind: 9}, api.ErrKind},
		{"no such file", s, api.Act{Kind: 2, Name: "a"}, api.ErrNone},
		{"no name", s, api.Act{Kind: 1, Name: "A"}, api.ErrName},
		{"no such dictionary", s, api.Act{Kind: 1, Name: "a", N: 2}, api.ErrRange},
		{"too great a dictionary", s, api.Act{Kind: 3, N: 257}, api.ErrRange},
		{"a text of 513", s, api.Act{Kind: 1, Name: "A", Text: as(513)}, api.ErrMany},
		{"a name of 513", s, api.Act{Kind: 9, Name: as(513)}, api.ErrMany},
		{"a text of 513 that counts for nothing", s, api.Act{Kind: 4, Text: as(513)}, api.ErrMany},
		{"n -1, though it counts for nothing", s, api.Act{Kind: 4, N: -1}, api.ErrRange},
		{"kind -1", s, api.Act{Kind: -1}, api.ErrRange},
		{"100 acts", hundred, api.Act{Kind: 4}, api.ErrMany},
		{"100 acts and more", hundred + s, api.Act{Kind: 4}, api.ErrMany},
		{"100 acts, no kind", hundred, api.Act{Kind: 9}, api.ErrMany},
		{"100 acts, kind -1", hundred, api.Act{Kind: -1}, api.ErrRange},
		{"a long log, kind -1", as(api.MaxImage + 1), api.Act{Kind: -1}, api.ErrMany},
	} {
		if u, err := log.Store(c.s, c.x); u != "" || err != c.want {
			t.Errorf("%s: %q %d, not %d", c.why, u, err, c.want)
		}
	}
	short := wantWrite(slices.Repeat([]api.Act{{Kind: 4}}, 99)...)
	if u, err := log.Store(short, api.Act{Kind: 4}); u != hundred || err != api.OK {
		t.Errorf("the hundredth: %q %d", u, err)
	}
}

// TestH3StoreLongest: logs of as many bytes as may be, and of one more.
func TestH3StoreLongest(t *testing.T) {
	last := api.Act{Kind: 1, Name: "z", Text: "the last one"}
	for _, more := range []int{-1, 0, 1, 2} {
		size := api.MaxImage + more - len(wantWrite(last))
		acts := slices.Repeat([]api.Act{{Kind: 1, Name: "a", Text: as(512)}}, 31)
		gap := size - len(wantWrite(acts...))
		for n := range 513 {
			if x := (api.Act{Kind: 1, Name: "b", Text: as(n)}); len(wantWrite(x)) == gap {
				acts = append(acts, x)
				break
			}
		}
		s := wantWrite(acts...)
		if len(s) != size {
			t.Fatalf("%d bytes, not %d", len(s), size)
		}
		u, err := log.Store(s+as(min(20, api.MaxImage-size)), last)
		if more <= 0 && (u != s+wantWrite(last) || err != api.OK) {
			t.Errorf("%d more: %d bytes %d", more, len(u), err)
		}
		if more > 0 && (u != "" || err != api.ErrMany) {
			t.Errorf("%d more: %d bytes %d", more, len(u), err)
		}
		bad := last
		bad.Name = "Z"
		if _, err := log.Store(s, bad); more > 0 && err != api.ErrMany || more <= 0 && err != api.ErrName {
			t.Errorf("%d more, no name: %d", more, err)
		}
	}
}

// TestH4Cut: wherever a log of drawn acts is cut, the acts that are whole are recovered, and what was done by them.
func TestH4Cut(t *testing.T) {
	r := rand.New(rand.NewSource(2))
	stored, refused := 0, 0
	for range 30 {
		s := ""
		var a api.Archive
		states, ends := []api.Archive{a}, []int{0}
		for range 12 {
			x := drawAct(r)
			b, want := wantDo(a, x)
			u, err := log.Store(s, x)
			if err != want {
				t.Fatalf("Store of %v: %d, not %d", x, err, want)
			}
			if err != api.OK {
				refused++
				continue
			}
			stored++
			s, a = u, b
			states, ends = append(states, a), append(ends, len(s))
		}
		whole := 0
		for cut := range len(s) + 1 {
			if whole+1 < len(ends) && ends[whole+1] == cut {
				whole++
			}
			if b, n, err := log.Recover(s[:cut]); !same(b, states[whole]) || n != whole || err != api.OK {
				t.Fatalf("cut at %d: %v %d %d, not %v %d", cut, b, n, err, states[whole], whole)
			}
		}
	}
	if stored < 100 || refused < 50 {
		t.Errorf("%d stored, %d refused", stored, refused)
	}
}

// TestH4StoredBehindCut: what is stored behind a cut is recovered with all that was whole.
func TestH4StoredBehindCut(t *testing.T) {
	acts := sampleActs()
	s := wantWrite(acts...)
	x := api.Act{Kind: 1, Name: "new", Text: "some new words"}
	for cut := range len(s) + 1 {
		whole, _ := wantReplay(s[:cut])
		u, err := log.Store(s[:cut], x)
		if err != api.OK {
			t.Fatalf("cut at %d: %d", cut, err)
		}
		want := append(slices.Clone(whole), x)
		if a, n, err := log.Recover(u); !same(a, wantDone(want)) || n != len(want) || err != api.OK {
			t.Errorf("cut at %d: %v %d %d", cut, a, n, err)
		}
	}
}

// TestP1ZeroWithError: whatever is handed in, a call ends, and an error comes alone.
func TestP1ZeroWithError(t *testing.T) {
	r := rand.New(rand.NewSource(3))
	wild := func() int { return []int{0, 1, 2, 3, 4, 5, -1, 300, math.MinInt, math.MaxInt, r.Int()}[r.Intn(11)] }
	for range 5000 {
		x := api.Act{Kind: wild(), N: wild(), Name: []string{"a", "", "\xff", as(513)}[r.Intn(4)], Text: as([]int{0, 5, 512, 513}[r.Intn(4)])}
		b := make([]byte, r.Intn(40))
		for i := range b {
			b[i] = byte(r.Intn(6))
		}
		askReplay(t, string(b))
		if s, err := log.Write(x); (err != api.OK) != (s == "") {
			t.Errorf("Write(%v): %q %d", x, s, err)
		}
		if a, err := log.Do(api.Archive{}, x); err != api.OK && !isZero(a) {
			t.Errorf("Do(%v): %v %d", x, a, err)
		}
		if s, err := log.Store(string(b), x); (err != api.OK) != (s == "") {
			t.Errorf("Store(%q, %v): %q %d", b, x, s, err)
		}
	}
}

// spoil changes all of an archive's lists, and the room behind them.
func spoil(a api.Archive) {
	dicts, files := a.Dicts[:cap(a.Dicts)], a.Files[:cap(a.Files)]
	for i := range dicts {
		dicts[i] = "spoilt"
	}
	for i := range files {
		files[i] = api.File{Name: "spoilt", Dict: 9}
	}
}

// TestP2OnlyRead: neither an archive that is handed in nor the room behind its lists is changed, and no answer shares them.
func TestP2OnlyRead(t *testing.T) {
	for _, x := range []api.Act{{Kind: 1, Name: "a"}, {Kind: 1, Name: "c"}, {Kind: 2, Name: "b.2"}, {Kind: 3, N: 9}, {Kind: 4}, {Kind: 5}} {
		a := wantDone(sampleActs())
		a.Dicts = append(a.Dicts, "spare", "more")[:1]
		a.Files = append(a.Files, api.File{Name: "spare"}, api.File{Name: "more"})[:2]
		was := api.Archive{Dicts: slices.Clone(a.Dicts[:3]), Files: slices.Clone(a.Files[:4])}
		unchanged := func() bool { return same(was, api.Archive{Dicts: a.Dicts[:3], Files: a.Files[:4]}) }
		b, _ := log.Do(a, x)
		if !unchanged() {
			t.Errorf("Do(%v) has made %v of %v", x, a, was)
		}
		want := api.Archive{Dicts: slices.Clone(b.Dicts), Files: slices.Clone(b.Files)}
		spoil(b)
		if !unchanged() {
			t.Errorf("Do(%v): the answer shares %v", x, a)
		}
		b, _ = log.Do(a, x)
		spoil(a)
		if !same(b, want) {
			t.Errorf("Do(%v): %v, not %v", x, b, want)
		}
	}
}

// TestP2NewMemory: the bytes of a log may become others, what was told of it stays.
func TestP2NewMemory(t *testing.T) {
	want := sampleActs()
	b := []byte(wantWrite(want...))
	s := unsafe.String(&b[0], len(b))
	l, _, _ := log.Replay(s)
	a, _, _ := log.Recover(s)
	u, err := log.Store(s, api.Act{Kind: 4})
	if err != api.OK {
		t.Fatalf("Store: %d", err)
	}
	for i := range b {
		b[i] = '!'
	}
	if !slices.Equal(l, want) || !same(a, wantDone(want)) || u != wantWrite(append(want, api.Act{Kind: 4})...) {
		t.Errorf("%v, %v, %q", l, a, u)
	}
}

// TestP3SameAgain: what was asked, and what was done to an answer, changes no later one.
func TestP3SameAgain(t *testing.T) {
	acts := sampleActs()
	s := wantWrite(acts...)
	for range 3 {
		l, n, err := log.Replay(s)
		if !slices.Equal(l, acts) || n != len(s) || err != api.OK {
			t.Errorf("Replay: %v %d %d", l, n, err)
		}
		clear(l)
		a, _, _ := log.Recover(s)
		if !same(a, wantDone(acts)) {
			t.Errorf("Recover: %v", a)
		}
		spoil(a)
		log.Store(s, api.Act{Kind: 1, Name: "c", Text: "others"})
		log.Replay("\xff")
	}
}

// TestP4Long: what is too long is told, and not gone through.
func TestP4Long(t *testing.T) {
	long := as(1 << 24)
	if l, n, err := log.Replay(long); len(l) != 0 || n != 0 || err != api.ErrMany {
		t.Errorf("Replay: %d", err)
	}
	if s, err := log.Write(api.Act{Name: long, Text: long}); s != "" || err != api.ErrMany {
		t.Errorf("Write: %d", err)
	}
	if a, err := log.Do(api.Archive{}, api.Act{Kind: 1, Name: "a", Text: long}); !isZero(a) || err != api.ErrMany {
		t.Errorf("Do: %d", err)
	}
}
