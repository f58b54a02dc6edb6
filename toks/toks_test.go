package toks_test

import (
	"math"
	"math/rand"
	"slices"
	"strings"
	"testing"

	"pocketpress/api"
	"pocketpress/toks"
)

// lit and cp make toks for the tables.
func lit(s string) api.Tok { return api.Tok{Lit: s} }

func cp(far, n int) api.Tok { return api.Tok{Far: far, Len: n} }

// as is n bytes that are alike.
func as(n int) string { return strings.Repeat("a", n) }

// wordy draws a text that has much in it twice.
func wordy(r *rand.Rand, n int) string {
	words := []string{"the ", "word", "abc", "a", " ", "xyz", "aaaa", "\x00", "\xff\x80"}
	s := ""
	for len(s) < n {
		if at := r.Intn(len(s) + 1); r.Intn(3) == 0 {
			s += s[at:min(len(s), at+1+r.Intn(90))]
		}
		s += words[r.Intn(len(words))]
	}
	return s[:n]
}

// wantCheck asks the rules of B1 one after the other.
func wantCheck(dict string, l []api.Tok) api.Errno {
	if len(dict) > api.MaxDict {
		return api.ErrMany
	}
	made := 0
	for i, t := range l {
		isLit := len(t.Lit) > 0
		size := t.Len
		if isLit {
			size = len(t.Lit)
		}
		switch {
		case isLit && (t.Far != 0 || t.Len != 0):
			return api.ErrForm
		case isLit && i > 0 && len(l[i-1].Lit) > 0:
			return api.ErrForm
		case !isLit && (t.Len < 3 || t.Len > 64):
			return api.ErrForm
		case !isLit && (t.Far < 1 || t.Far > len(dict)+made):
			return api.ErrForm
		case made+size > api.MaxText:
			return api.ErrMany
		}
		made += size
	}
	return api.OK
}

// wantPlay makes the text byte by byte.
func wantPlay(dict string, l []api.Tok) string {
	s := dict
	for _, t := range l {
		s += t.Lit
		for i := 0; i < t.Len; i++ {
			s += s[len(s)-t.Far : len(s)-t.Far+1]
		}
	}
	return s[len(dict):]
}

// wantParse tries each Far.
func wantParse(dict, text string) []api.Tok {
	var l []api.Tok
	all := dict + text
	for at := len(dict); at < len(all); {
		far, size := 0, 0
		for f := 1; f <= at; f++ {
			n := 0
			for n < 64 && at+n < len(all) && all[at+n-f] == all[at+n] {
				n++
			}
			if n > size {
				far, size = f, n
			}
		}
		switch {
		case size >= 3:
			l = append(l, cp(far, size))
			at += size
		case len(l) > 0 && l[len(l)-1].Lit != "":
			l[len(l)-1].Lit += all[at : at+1]
			at++
		default:
			l = append(l, lit(all[at:at+1]))
			at++
		}
	}
	return l
}

// number is a number as bytes.
func number(n int) string {
	s := ""
	for ; n > 127; n >>= 7 {
		s += string([]byte{byte(n | 128)})
	}
	return s + string([]byte{byte(n)})
}

// wantWrite makes the bytes of right toks.
func wantWrite(l []api.Tok) string {
	s := ""
	for _, t := range l {
		if t.Lit != "" {
			s += number(2*len(t.Lit)) + t.Lit
		} else {
			s += number(2*t.Len+1) + number(t.Far)
		}
	}
	return s
}

// drawToks draws toks that are right but for a fault here and there.
func drawToks(r *rand.Rand, dict string) []api.Tok {
	var l []api.Tok
	made := 0
	for range r.Intn(14) {
		far := 1 + r.Intn(len(dict)+made+1)
		n := []int{3, 4, 5, 17, 63, 64}[r.Intn(6)]
		behindLit := len(l) > 0 && l[len(l)-1].Lit != ""
		x := cp(far, n)
		if !behindLit && r.Intn(2) == 0 {
			x = lit(wordy(r, 1+r.Intn(70)))
			n = len(x.Lit)
		}
		switch r.Intn(60) {
		case 0:
			x.Far = []int{0, -1, len(dict) + made + 1, math.MaxInt, math.MinInt}[r.Intn(5)]
		case 1:
			x.Len = []int{0, 1, 2, 65, -3, math.MaxInt, math.MinInt}[r.Intn(7)]
		case 2:
			x.Lit = "b"
		case 3:
			x = api.Tok{}
		}
		l = append(l, x)
		made += n
	}
	return l
}

type checkCase struct {
	name string
	dict string
	l    []api.Tok
	want api.Errno
}

func checkCases() []checkCase {
	return []checkCase{
		{"nothing", "", nil, api.OK},
		{"an empty list", "xy", []api.Tok{}, api.OK},
		{"an empty tok", "xyz", []api.Tok{{}}, api.ErrForm},
		{"a Lit", "", []api.Tok{lit("a")}, api.OK},
		{"two Lits side by side", "", []api.Tok{lit("a"), lit("b")}, api.ErrForm},
		{"Lits with a copy between", "", []api.Tok{lit("a"), cp(1, 3), lit("b")}, api.OK},
		{"two Lits behind a copy", "x", []api.Tok{cp(1, 3), lit("a"), lit("b")}, api.ErrForm},
		{"a Lit with a Far", "xyz", []api.Tok{{Lit: "a", Far: 1}}, api.ErrForm},
		{"a Lit with a Len", "xyz", []api.Tok{{Lit: "a", Len: 3}}, api.ErrForm},
		{"a Lit with a Len of its own", "xyz", []api.Tok{{Lit: "abc", Far: 1, Len: 3}}, api.ErrForm},
		{"a Lit with a negative Far", "xyz", []api.Tok{{Lit: "a", Far: -1}}, api.ErrForm},
		{"a Lit with a negative Len", "xyz", []api.Tok{{Lit: "a", Len: -1}}, api.ErrForm},
		{"a copy of nothing", "", []api.Tok{cp(1, 3)}, api.ErrForm},
		{"a copy of the dictionary", "x", []api.Tok{cp(1, 3)}, api.OK},
		{"a copy of the first byte of the dictionary", "xyz", []api.Tok{cp(3, 3)}, api.OK},
		{"a copy from ahead of the dictionary", "xyz", []api.Tok{cp(4, 3)}, api.ErrForm},
		{"a copy of the first byte of all", "xyz", []api.Tok{lit("ab"), cp(5, 3)}, api.OK},
		{"a copy from ahead of all", "xyz", []api.Tok{lit("ab"), cp(6, 3)}, api.ErrForm},
		{"a copy of a copy", "x", []api.Tok{cp(1, 3), cp(4, 3)}, api.OK},
		{"a copy from ahead of a copy", "x", []api.Tok{cp(1, 3), cp(5, 3)}, api.ErrForm},
		{"Far 0", "xyz", []api.Tok{cp(0, 3)}, api.ErrForm},
		{"Far -1", "xyz", []api.Tok{cp(-1, 3)}, api.ErrForm},
		{"Far least", "xyz", []api.Tok{cp(math.MinInt, 3)}, api.ErrForm},
		{"Far greatest", "xyz", []api.Tok{cp(math.MaxInt, 3)}, api.ErrForm},
		{"Len 0", "xyz", []api.Tok{cp(1, 0)}, api.ErrForm},
		{"Len 2", "xyz", []api.Tok{cp(1, 2)}, api.ErrForm},
		{"Len -3", "xyz", []api.Tok{cp(1, -3)}, api.ErrForm},
		{"Len 64", "xyz", []api.Tok{cp(1, 64)}, api.OK},
		{"Len 65", "xyz", []api.Tok{cp(1, 65)}, api.ErrForm},
		{"Len greatest", "xyz", []api.Tok{cp(1, math.MaxInt)}, api.ErrForm},
		{"Len least", "xyz", []api.Tok{cp(1, math.MinInt)}, api.ErrForm},
		{"a Lit of 512", "", []api.Tok{lit(as(512))}, api.OK},
		{"a Lit of 513", "", []api.Tok{lit(as(513))}, api.ErrMany},
		{"a long Lit", "", []api.Tok{lit(as(1 << 20))}, api.ErrMany},
		{"512 by a copy", "", []api.Tok{lit(as(509)), cp(1, 3)}, api.OK},
		{"513 by a copy", "", []api.Tok{lit(as(510)), cp(1, 3)}, api.ErrMany},
		{"512 by copies", "x", slices.Repeat([]api.Tok{cp(1, 64)}, 8), api.OK},
		{"513 by a Lit", "x", append(slices.Repeat([]api.Tok{cp(1, 64)}, 8), lit("a")), api.ErrMany},
		{"515 by copies", "x", append(slices.Repeat([]api.Tok{cp(1, 64)}, 8), cp(1, 3)), api.ErrMany},
		{"a dictionary of 256, and 512", as(256), []api.Tok{lit(as(448)), cp(704, 64)}, api.OK},
		{"a dictionary of 256, too far", as(256), []api.Tok{lit(as(448)), cp(705, 64)}, api.ErrForm},
		{"a dictionary of 257", as(257), nil, api.ErrMany},
		{"a dictionary of 257 ahead of a wrong tok", as(257), []api.Tok{{}}, api.ErrMany},
		{"too many ahead of a wrong form", "", []api.Tok{lit(as(513)), {}}, api.ErrMany},
		{"a wrong form ahead of too many", "x", []api.Tok{{}, lit(as(513))}, api.ErrForm},
		{"a wrong form and too many in one Lit", "x", []api.Tok{{Lit: as(513), Far: 1}}, api.ErrForm},
		{"a second Lit that is too many", "x", []api.Tok{lit("a"), lit(as(512))}, api.ErrForm},
		{"a wrong copy that is too many", "x", []api.Tok{lit(as(512)), cp(1, 65)}, api.ErrForm},
		{"a copy too far that is too many", "x", []api.Tok{lit(as(512)), cp(514, 3)}, api.ErrForm},
	}
}

// askCheck holds Check, Play and Write against what is wanted.
func askCheck(t *testing.T, name, dict string, l []api.Tok, want api.Errno) {
	t.Helper()
	if err := toks.Check(dict, l); err != want {
		t.Errorf("%s: Check: %d, not %d", name, err, want)
	}
	text, bytes := "", ""
	if want == api.OK {
		text, bytes = wantPlay(dict, l), wantWrite(l)
	}
	if s, err := toks.Play(dict, l); s != text || err != want {
		t.Errorf("%s: Play: %q %d, not %q %d", name, s, err, text, want)
	}
	if s, err := toks.Write(dict, l); s != bytes || err != want {
		t.Errorf("%s: Write: %x %d, not %x %d", name, s, err, bytes, want)
	}
}

func TestB1Check(t *testing.T) {
	for _, c := range checkCases() {
		askCheck(t, c.name, c.dict, c.l, c.want)
	}
}

func TestB1CheckDrawn(t *testing.T) {
	r := rand.New(rand.NewSource(1))
	told := map[api.Errno]int{}
	for range 6000 {
		dict := wordy(r, r.Intn(20))
		l := drawToks(r, dict)
		want := wantCheck(dict, l)
		told[want]++
		askCheck(t, "drawn", dict, l, want)
	}
	if told[api.OK] < 100 || told[api.ErrForm] < 100 || told[api.ErrMany] < 20 {
		t.Errorf("the draws are lopsided: %v", told)
	}
}

func TestB1Play(t *testing.T) {
	for _, c := range []struct {
		dict string
		l    []api.Tok
		want string
	}{
		{"", nil, ""},
		{"abc", nil, ""},
		{"", []api.Tok{lit("hello")}, "hello"},
		{"abc", []api.Tok{lit("x"), cp(4, 3), cp(3, 6), lit("z")}, "xabcabcabcz"},
		{"", []api.Tok{lit("a"), cp(1, 5)}, "aaaaaa"},
		{"", []api.Tok{lit("ab"), cp(2, 5)}, "abababa"},
		{"xy", []api.Tok{cp(2, 3)}, "xyx"},
		{"xy", []api.Tok{lit("ab"), cp(3, 4)}, "abyaby"},
		{"xyz", []api.Tok{lit("\x00\xff"), cp(5, 5)}, "\x00\xffxyz\x00\xff"},
	} {
		if s, err := toks.Play(c.dict, c.l); s != c.want || err != api.OK {
			t.Errorf("Play(%q, %v): %q %d, not %q", c.dict, c.l, s, err, c.want)
		}
	}
}

func TestB2ParseKnown(t *testing.T) {
	for _, c := range []struct {
		dict, text string
		want       []api.Tok
	}{
		{"", "", nil},
		{"abc", "", nil},
		{"", "a", []api.Tok{lit("a")}},
		{"abc", "xabcabcabcz", []api.Tok{lit("x"), cp(4, 3), cp(3, 6), lit("z")}},
		{"", "aaa", []api.Tok{lit("aaa")}}, // two bytes are no copy
		{"", "aaaa", []api.Tok{lit("a"), cp(1, 3)}},
		{"a", "aaa", []api.Tok{cp(1, 3)}},
		{"ab", "ab", []api.Tok{lit("ab")}},
		{"abc", "abc", []api.Tok{cp(3, 3)}},
		{"abcxabcy", "abc", []api.Tok{cp(4, 3)}},                 // the least Far
		{"abcdxabcy", "abcd", []api.Tok{cp(9, 4)}},               // the most bytes, however far
		{"abcxabcdyabc", "abcdz", []api.Tok{cp(8, 4), lit("z")}}, // the most bytes, in the midst
		{"aaaaaa", "aaaa", []api.Tok{cp(1, 4)}},                  // Fars that reach into the copy
		{"xab", "cdabcd", []api.Tok{lit("cd"), cp(4, 4)}},        // from the dictionary on into the text
		{"a", as(64), []api.Tok{cp(1, 64)}},
		{"a", as(66), []api.Tok{cp(1, 64), lit("aa")}},
		{"a", as(67), []api.Tok{cp(1, 64), cp(1, 3)}},
		{as(100), as(70), []api.Tok{cp(1, 64), cp(1, 6)}},
		{"", "\x00\x00\x00\x00\xff", []api.Tok{lit("\x00"), cp(1, 3), lit("\xff")}},
		{"a", as(512), slices.Repeat([]api.Tok{cp(1, 64)}, 8)},
	} {
		if l, err := toks.Parse(c.dict, c.text); !slices.Equal(l, c.want) || err != api.OK {
			t.Errorf("Parse(%q, %q): %v %d, not %v", c.dict, c.text, l, err, c.want)
		}
	}
}

// TestB2ParseFar: the farthest copy that there may be is found.
func TestB2ParseFar(t *testing.T) {
	dict, text := "xyz"+strings.Repeat(".", 253), strings.Repeat(".", 509)+"xyz"
	l, err := toks.Parse(dict, text)
	if err != api.OK || len(l) == 0 || l[len(l)-1] != cp(765, 3) {
		t.Errorf("Parse: %v %d", l, err)
	}
}

func askParse(t *testing.T, dict, text string) {
	t.Helper()
	want := wantParse(dict, text)
	l, err := toks.Parse(dict, text)
	if !slices.Equal(l, want) || err != api.OK {
		t.Errorf("Parse(%q, %q): %v %d, not %v", dict, text, l, err, want)
	}
	if s, err := toks.Play(dict, l); s != text || err != api.OK {
		t.Errorf("Play of Parse(%q, %q): %q %d", dict, text, s, err)
	}
}

func TestB2ParseAllSmall(t *testing.T) {
	for _, dict := range []string{"", "a", "ab", "aba", "bbab", "aaaa"} {
		for size := range 11 {
			for bits := range 1 << size {
				text := make([]byte, size)
				for i := range text {
					text[i] = "ab"[bits>>i&1]
				}
				askParse(t, dict, string(text))
			}
		}
	}
}

func TestB2ParseDrawn(t *testing.T) {
	r := rand.New(rand.NewSource(2))
	for range 400 {
		askParse(t, wordy(r, r.Intn(40)), wordy(r, r.Intn(120)))
	}
	for range 12 {
		askParse(t, wordy(r, r.Intn(api.MaxDict+1)), wordy(r, r.Intn(api.MaxText+1)))
	}
	askParse(t, wordy(r, api.MaxDict), wordy(r, api.MaxText))
}

func TestB2ParseMany(t *testing.T) {
	for _, c := range []struct{ dict, text string }{
		{as(257), ""}, {as(257), "abc"}, {"", as(513)}, {"abc", as(513)}, {as(257), as(513)}, {as(256), as(513)}, {as(257), as(512)}, {as(1 << 20), as(1 << 20)},
	} {
		if l, err := toks.Parse(c.dict, c.text); len(l) != 0 || err != api.ErrMany {
			t.Errorf("Parse of %d and %d bytes: %d toks %d, not ErrMany", len(c.dict), len(c.text), len(l), err)
		}
	}
}

func TestB3WriteKnown(t *testing.T) {
	for _, c := range []struct {
		dict string
		l    []api.Tok
		want string
	}{
		{"", nil, ""},
		{"", []api.Tok{lit("a")}, "\x02a"},
		{"", []api.Tok{lit("abc"), cp(3, 3)}, "\x06abc\x07\x03"},
		{"abc", []api.Tok{lit("x"), cp(4, 3), cp(3, 6), lit("z")}, "\x02x\x07\x04\x0d\x03\x02z"},
		{"", []api.Tok{lit(as(63))}, "\x7e" + as(63)},
		{"", []api.Tok{lit(as(64))}, "\x80\x01" + as(64)},
		{"", []api.Tok{lit(as(512))}, "\x80\x08" + as(512)},
		{"a", []api.Tok{cp(1, 63)}, "\x7f\x01"},
		{"a", []api.Tok{cp(1, 64)}, "\x81\x01\x01"},
		{as(127), []api.Tok{cp(127, 3)}, "\x07\x7f"},
		{as(128), []api.Tok{cp(128, 3)}, "\x07\x80\x01"},
		{as(256), []api.Tok{lit(as(500)), cp(756, 12)}, "\xe8\x07" + as(500) + "\x19\xf4\x05"},
	} {
		if s, err := toks.Write(c.dict, c.l); s != c.want || err != api.OK {
			t.Errorf("Write(%q, %v): %x %d, not %x", c.dict, c.l, s, err, c.want)
		}
		if l, err := toks.Read(c.dict, c.want); !slices.Equal(l, c.l) || err != api.OK {
			t.Errorf("Read(%q, %x): %v %d, not %v", c.dict, c.want, l, err, c.l)
		}
	}
}

func TestB3ReadNone(t *testing.T) {
	full := "\x80\x08" + as(512)
	copies := strings.Repeat("\x81\x01\x01", 8)
	for name, c := range map[string][2]string{
		"a Lit of no bytes":             {"xyz", "\x00"},
		"a Lit of no bytes behind":      {"xyz", "\x02a\x00"},
		"a Lit of no bytes ahead":       {"xyz", "\x00\x02a"},
		"a Lit that is cut":             {"", "\x04a"},
		"a Lit without its bytes":       {"", "\x02"},
		"a great Lit":                   {"", "\xfe\xff\xff\xff\x07abc"},
		"two Lits":                      {"", "\x02a\x02b"},
		"a copy without a Far":          {"xyz", "\x07"},
		"a copy with a Far that is cut": {"xyz", "\x07\x81"},
		"a Len of 0":                    {"xyz", "\x01\x01"},
		"a Len of 2":                    {"xyz", "\x05\x01"},
		"a Len of 65":                   {"xyz", "\x83\x01\x01"},
		"a great Len":                   {"xyz", "\xff\xff\xff\xff\x07\x01"},
		"a Far of 0":                    {"xyz", "\x07\x00"},
		"a Far that is too far":         {"xyz", "\x07\x04"},
		"a Far of nothing":              {"", "\x07\x01"},
		"a great Far":                   {"xyz", "\x07\xff\xff\xff\xff\x07"},
		"a number that is cut":          {"xyz", "\x80"},
		"a long number for a Lit":       {"xyz", "\x82\x00a"},
		"a long number for a Len":       {"xyz", "\x87\x00\x01"},
		"a long number for a Far":       {"xyz", "\x07\x81\x00"},
		"a number that is too great":    {"xyz", "\x87\x80\x80\x80\x08\x01"},
		"a Lit of 513":                  {"", "\x82\x08" + as(513)},
		"515 by a copy":                 {"", full + "\x07\x01"},
		"515 by copies":                 {"x", copies + "\x07\x01"},
		"513 by a Lit":                  {"x", copies + "\x02a"},
		"something behind":              {"x", copies + "\x00"},
		"very many":                     {"x", strings.Repeat("\x07\x01", 1<<20)},
		"a very long Lit":               {"x", "\x80\x80\x80\x01" + as(1<<20)},
	} {
		if l, err := toks.Read(c[0], c[1]); len(l) != 0 || err != api.ErrForm {
			t.Errorf("%s: %v %d, not ErrForm", name, l, err)
		}
	}
}

func TestB3ReadEdges(t *testing.T) {
	for _, c := range []struct {
		dict, s string
		want    []api.Tok
	}{
		{"", "", nil},
		{as(256), "", nil},
		{"xyz", "\x07\x03", []api.Tok{cp(3, 3)}},
		{"xyz", "\x02a\x07\x04", []api.Tok{lit("a"), cp(4, 3)}},
		{"x", strings.Repeat("\x81\x01\x01", 8), slices.Repeat([]api.Tok{cp(1, 64)}, 8)},
		{"", "\xfa\x07" + as(509) + "\x07\x01", []api.Tok{lit(as(509)), cp(1, 3)}},
		{"", "\x06\x07\x01\x00", []api.Tok{lit("\x07\x01\x00")}},
	} {
		if l, err := toks.Read(c.dict, c.s); !slices.Equal(l, c.want) || err != api.OK {
			t.Errorf("Read(%q, %x): %v %d, not %v", c.dict, c.s, l, err, c.want)
		}
	}
}

func TestB3ReadMany(t *testing.T) {
	for _, s := range []string{"", "\x02a", "\x00", "\x80", "\x02a\x02b"} {
		if l, err := toks.Read(as(257), s); len(l) != 0 || err != api.ErrMany {
			t.Errorf("Read(.., %x): %v %d, not ErrMany", s, l, err)
		}
	}
}

// TestB3ReadLongest: right toks whose bytes are as many as may be.
func TestB3ReadLongest(t *testing.T) {
	dict := as(256)
	l := []api.Tok{lit("b")}
	for made := 1; made+5 <= api.MaxText; made += 4 {
		l = append(l, cp(200, 3), lit("c"))
	}
	s, err := toks.Write(dict, l)
	if s != wantWrite(l) || err != api.OK {
		t.Fatalf("Write: %d bytes %d", len(s), err)
	}
	if m, err := toks.Read(dict, s); !slices.Equal(m, l) || err != api.OK {
		t.Errorf("Read of %d bytes: %d toks %d", len(s), len(m), err)
	}
}

// TestB3ReadAllSmall: of bytes that are read nothing else than Write makes them, and of those that are not, no right toks.
func TestB3ReadAllSmall(t *testing.T) {
	const dict = "xy"
	signs := []byte{0, 1, 2, 3, 4, 6, 7, 9, 11, 128, 129, 135}
	var tell func(l []api.Tok, room int)
	right := map[string][]api.Tok{}
	tell = func(l []api.Tok, room int) {
		s := wantWrite(l)
		if wantCheck(dict, l) != api.OK || len(s) > 5 {
			return
		}
		right[s] = slices.Clone(l)
		if room == 0 {
			return
		}
		for far := 1; far < 12; far++ {
			for n := 3; n <= 67; n++ {
				tell(append(l, cp(far, n)), room-1)
			}
		}
		for _, a := range signs {
			tell(append(l, lit(string([]byte{a}))), room-1)
			for _, b := range signs {
				tell(append(l, lit(string([]byte{a, b}))), room-1)
			}
		}
	}
	tell(nil, 2)
	var ask func(s string)
	ask = func(s string) {
		want, ok := right[s]
		l, err := toks.Read(dict, s)
		if ok && (err != api.OK || !slices.Equal(l, want)) {
			t.Errorf("Read(%x): %v %d, not %v", s, l, err, want)
		}
		if !ok && len(s) < 4 && (err != api.ErrForm || len(l) != 0) {
			t.Errorf("Read(%x): %v %d, not ErrForm", s, l, err)
		}
		if len(s) == 4 {
			return
		}
		for _, a := range signs {
			ask(s + string([]byte{a}))
		}
	}
	ask("")
}

func TestB4RoundTrips(t *testing.T) {
	r := rand.New(rand.NewSource(3))
	read := 0
	for range 2500 {
		dict := wordy(r, r.Intn(30))
		l := drawToks(r, dict)
		if r.Intn(3) == 0 {
			l = wantParse(dict, wordy(r, r.Intn(80)))
		}
		if wantCheck(dict, l) != api.OK {
			continue
		}
		s, err := toks.Write(dict, l)
		if err != api.OK {
			t.Fatalf("Write(%q, %v): %d", dict, l, err)
		}
		if m, err := toks.Read(dict, s); !slices.Equal(m, l) || err != api.OK {
			t.Errorf("Read of Write(%q, %v): %v %d", dict, l, m, err)
		}
		b := []byte(s)
		if len(b) == 0 {
			continue
		}
		b[r.Intn(len(b))] = byte(r.Intn(14))
		b = b[:len(b)-r.Intn(2)]
		m, err := toks.Read(dict, string(b))
		if err != api.OK {
			if len(m) != 0 || err != api.ErrForm {
				t.Errorf("Read(%q, %x): %v %d", dict, b, m, err)
			}
			continue
		}
		read++
		if w, err := toks.Write(dict, m); w != string(b) || err != api.OK {
			t.Errorf("Write of Read(%q, %x): %x %d", dict, b, w, err)
		}
	}
	if read < 100 {
		t.Errorf("only %d changed ones could be read", read)
	}
}

// TestP1ZeroWithError: whatever is handed in, a call ends, and an error comes alone.
func TestP1ZeroWithError(t *testing.T) {
	r := rand.New(rand.NewSource(5))
	wild := func() int {
		return []int{0, 1, 2, 3, 64, 65, -1, math.MinInt, math.MaxInt, r.Int()}[r.Intn(10)]
	}
	for range 5000 {
		dict := wordy(r, []int{0, 3, 256, 257}[r.Intn(4)])
		var l []api.Tok
		for range r.Intn(4) {
			l = append(l, api.Tok{Lit: as(r.Intn(3)), Far: wild(), Len: wild()})
		}
		b := make([]byte, r.Intn(7))
		r.Read(b)
		if s, err := toks.Play(dict, l); err != api.OK && s != "" {
			t.Errorf("Play(%q, %v): %q %d", dict, l, s, err)
		}
		if s, err := toks.Write(dict, l); err != api.OK && s != "" {
			t.Errorf("Write(%q, %v): %q %d", dict, l, s, err)
		}
		if m, err := toks.Read(dict, string(b)); err != api.OK && len(m) != 0 {
			t.Errorf("Read(%q, %x): %v %d", dict, b, m, err)
		}
	}
}

// TestP4Long: what is too long is told, and not gone through.
func TestP4Long(t *testing.T) {
	long := as(1 << 24)
	many := append([]api.Tok{lit("a")}, slices.Repeat([]api.Tok{cp(1, 3)}, 1<<20)...)
	if err := toks.Check("", many); err != api.ErrMany {
		t.Errorf("Check: %d", err)
	}
	if s, err := toks.Play(long, many); s != "" || err != api.ErrMany {
		t.Errorf("Play: %d bytes %d", len(s), err)
	}
	if l, err := toks.Parse("", long); len(l) != 0 || err != api.ErrMany {
		t.Errorf("Parse: %d toks %d", len(l), err)
	}
	if l, err := toks.Read("", "\x02a"+strings.Repeat("\x07\x01", 1<<23)); len(l) != 0 || err != api.ErrForm {
		t.Errorf("Read: %d toks %d", len(l), err)
	}
}

// TestP2OnlyRead: neither a list that is handed in nor the room behind it is changed.
func TestP2OnlyRead(t *testing.T) {
	room := []api.Tok{lit("ab"), cp(2, 4), lit("c"), {Lit: "spare", Far: 7, Len: 8}, {}}
	was := slices.Clone(room)
	for n := range 4 {
		l := room[:n]
		toks.Check("xyz", l)
		toks.Play("xyz", l)
		toks.Write("xyz", l)
		if !slices.Equal(room, was) {
			t.Fatalf("of %d toks: %v, not %v", n, room, was)
		}
	}
}

// TestP2NotKept: what is handed in or answered may be changed, no later answer shows it.
func TestP2NotKept(t *testing.T) {
	const dict, text = "abc", "xabcabcabcz"
	spoil := func(l []api.Tok) {
		l = l[:cap(l)]
		for i := range l {
			l[i] = api.Tok{Lit: "!", Far: 9, Len: 9}
		}
	}
	want := wantParse(dict, text)
	for range 3 {
		l, err := toks.Parse(dict, text)
		if !slices.Equal(l, want) || err != api.OK {
			t.Errorf("Parse: %v %d", l, err)
		}
		s, err := toks.Write(dict, l)
		if s != wantWrite(want) || err != api.OK {
			t.Errorf("Write: %x %d", s, err)
		}
		u, err := toks.Play(dict, l)
		spoil(l)
		if u != text || err != api.OK {
			t.Errorf("Play: %q %d", u, err)
		}
		m, err := toks.Read(dict, s)
		if !slices.Equal(m, want) || err != api.OK {
			t.Errorf("Read: %v %d", m, err)
		}
		spoil(m)
	}
}

// TestP2AnswersStay: an answer is the caller's, no later call changes it.
func TestP2AnswersStay(t *testing.T) {
	parsed, _ := toks.Parse("abc", "xabcabcabcz")
	read, _ := toks.Read("abc", "\x02x\x07\x04\x0d\x03\x02z")
	wasParsed, wasRead := slices.Clone(parsed), slices.Clone(read)
	toks.Parse("", "other bytes, other bytes")
	toks.Read("xyz", "\x07\x02\x04no\x09\x01\x04no")
	if !slices.Equal(parsed, wasParsed) || !slices.Equal(read, wasRead) {
		t.Errorf("%v and %v, not %v and %v", parsed, read, wasParsed, wasRead)
	}
}

// TestP3SameAgain: what was asked between changes no answer.
func TestP3SameAgain(t *testing.T) {
	r := rand.New(rand.NewSource(4))
	type asked struct {
		dict, text, s string
		l, m          []api.Tok
	}
	var all []asked
	for range 60 {
		a := asked{dict: wordy(r, r.Intn(40)), text: wordy(r, r.Intn(90))}
		a.l, _ = toks.Parse(a.dict, a.text)
		a.s, _ = toks.Write(a.dict, a.l)
		a.m, _ = toks.Read(a.dict, a.s)
		all = append(all, a)
	}
	slices.Reverse(all)
	for _, a := range all {
		toks.Parse(as(257), a.text)
		toks.Read("", a.s+"\x00")
		l, _ := toks.Parse(a.dict, a.text)
		s, _ := toks.Write(a.dict, l)
		m, _ := toks.Read(a.dict, s)
		if !slices.Equal(l, a.l) || s != a.s || !slices.Equal(m, a.m) {
			t.Errorf("%q %q: %v, then %v", a.dict, a.text, a.l, l)
		}
	}
}
