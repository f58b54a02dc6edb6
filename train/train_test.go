package train_test

import (
	"math"
	"math/rand"
	"slices"
	"strings"
	"testing"

	"pocketpress/api"
	"pocketpress/train"
)

// as is n bytes that are alike.
func as(n int) string { return strings.Repeat("a", n) }

// times is a list of a text so often.
func times(t string, n int) []string { return slices.Repeat([]string{t}, n) }

// wordy draws a text that has much in it twice.
func wordy(r *rand.Rand, n int) string {
	words := []string{"the ", "word", "abc", "a", " ", "xyz", "\x00", "\xff\x80"}
	s := ""
	for len(s) < n {
		if at := r.Intn(len(s) + 1); r.Intn(3) == 0 {
			s += s[at:min(len(s), at+1+r.Intn(12))]
		}
		s += words[r.Intn(len(words))]
	}
	return s[:n]
}

// few draws a text of so few letters that most pieces come again.
func few(r *rand.Rand, n int) string {
	b := make([]byte, n)
	for i := range b {
		b[i] = "ab\xff"[r.Intn(3)]
	}
	return string(b)
}

func drawTexts(r *rand.Rand) []string {
	var l []string
	for range r.Intn(13) {
		if r.Intn(2) == 0 {
			l = append(l, wordy(r, r.Intn(60)))
		} else {
			l = append(l, few(r, r.Intn(14)))
		}
	}
	return l
}

// wantCount goes through each place of each text.
func wantCount(l []string, p string) int {
	n := 0
	for _, t := range l {
		for i := 0; i+4 <= len(t); i++ {
			if t[i:i+4] == p {
				n++
				break
			}
		}
	}
	return n
}

// wantTrain does what E2 says, word by word.
func wantTrain(l []string, size int) string {
	dict := ""
	for len(dict)+4 <= size {
		best, most := "", 1
		for _, t := range l {
			for i := 0; i+4 <= len(t); i++ {
				p := t[i : i+4]
				n := wantCount(l, p)
				if !strings.Contains(dict, p) && (n > most || n == most && best != "" && p < best) {
					best, most = p, n
				}
			}
		}
		if best == "" {
			break
		}
		dict = best + dict
	}
	return dict
}

func TestE1Count(t *testing.T) {
	for _, c := range []struct {
		l    []string
		p    string
		want int
	}{
		{nil, "abcd", 0},
		{[]string{""}, "abcd", 0},
		{[]string{"abc", "bcd", "abc", "d"}, "abcd", 0},
		{[]string{"abcd"}, "abcd", 1},
		{[]string{"abcd", "abcd"}, "abcd", 2},
		{[]string{"abcdabcdabcd", "xabcdx"}, "abcd", 2},
		{[]string{"aaaaaaaa", "aaa", "baaaab"}, "aaaa", 2},
		{[]string{"xabcd", "abcdx", "abxcd", "ABCD"}, "abcd", 2},
		{[]string{"\x00\x00\x00\x00", "\x00\x00\x00"}, "\x00\x00\x00\x00", 1},
		{[]string{"\xff\xfe\xfd\xfc\xfb"}, "\xfe\xfd\xfc\xfb", 1},
		{times("abcd", 12), "abcd", 12},
		{[]string{as(508) + "abcd"}, "abcd", 1},
	} {
		if n, err := train.Count(c.l, c.p); n != c.want || err != api.OK {
			t.Errorf("Count(%q, %q): %d %d, not %d", c.l, c.p, n, err, c.want)
		}
	}
}

func TestE1CountErrors(t *testing.T) {
	for _, c := range []struct {
		name string
		l    []string
		p    string
		want api.Errno
	}{
		{"no piece", nil, "", api.ErrRange},
		{"three bytes", []string{"abc"}, "abc", api.ErrRange},
		{"five bytes", []string{"abcde"}, "abcde", api.ErrRange},
		{"13 texts", make([]string, 13), "abcd", api.ErrMany},
		{"12 texts", make([]string, 12), "abcd", api.OK},
		{"513 bytes", []string{"", as(513)}, "abcd", api.ErrMany},
		{"512 bytes", []string{"", as(512)}, "abcd", api.OK},
		{"13 texts, three bytes", make([]string, 13), "abc", api.ErrMany},
		{"513 bytes, three bytes", []string{as(513)}, "abc", api.ErrMany},
	} {
		if n, err := train.Count(c.l, c.p); n != 0 || err != c.want {
			t.Errorf("%s: %d %d, not %d", c.name, n, err, c.want)
		}
	}
}

func TestE1CountDrawn(t *testing.T) {
	r := rand.New(rand.NewSource(1))
	for range 3000 {
		l := drawTexts(r)
		p := few(r, 4)
		if all := strings.Join(l, ""); len(all) > 4 && r.Intn(2) == 0 {
			at := r.Intn(len(all) - 4)
			p = all[at : at+4]
		}
		if n, err := train.Count(l, p); n != wantCount(l, p) || err != api.OK {
			t.Errorf("Count(%q, %q): %d %d, not %d", l, p, n, err, wantCount(l, p))
		}
	}
}

func TestE2TrainKnown(t *testing.T) {
	across := slices.Concat(times("cdxx", 4), times("yyab", 3), times("abcd", 2))
	for _, c := range []struct {
		name string
		l    []string
		size int
		want string
	}{
		{"the document's", []string{"abcde", "xabcde", "zzzz"}, 8, "bcdeabcd"},
		{"no text", nil, 256, ""},
		{"one text", []string{"abcdabcdabcd"}, 256, ""},
		{"short texts", times("abc", 12), 256, ""},
		{"no room", times("abcd", 2), 3, ""},
		{"no room at all", times("abcd", 2), 0, ""},
		{"room for one", times("abcd", 2), 4, "abcd"},
		{"room for one, and three bytes", times("abcde", 2), 7, "abcd"},
		{"room for two", times("abcde", 2), 8, "bcdeabcd"},
		{"there are no more", times("abcde", 2), 256, "bcdeabcd"},
		{"the greater count first", []string{"aaaa", "aaaa", "bbbb", "bbbb", "bbbb"}, 256, "aaaabbbb"},
		{"often in one text is once", []string{"bbbb bbbb_bbbb", "bbbb", "aaaa", "aaaa"}, 4, "aaaa"},
		{"what stands across two pieces is there", across, 256, "yyabcdxx"},
		{"and is not yet, ahead of the second one", across, 4, "cdxx"},
		{"bytes are held against each other, not signs", []string{"\xff\xff\xff\xff", "\xff\xff\xff\xff", "zzzz", "zzzz"}, 4, "zzzz"},
		{"0 is a byte", []string{"\x00\x00\x00\x00", "\x00\x00\x00\x00", "zzzz", "zzzz"}, 4, "\x00\x00\x00\x00"},
		{"one piece, many places", times("aaaaaaaaaa", 2), 256, "aaaa"},
		{"two by turns", times("ababab", 2), 256, "babaabab"},
	} {
		if d, err := train.Train(c.l, c.size); d != c.want || err != api.OK {
			t.Errorf("%s: %q %d, not %q", c.name, d, err, c.want)
		}
	}
}

func TestE2TrainErrors(t *testing.T) {
	for _, c := range []struct {
		name string
		l    []string
		size int
		want api.Errno
	}{
		{"-1", nil, -1, api.ErrRange},
		{"0", nil, 0, api.OK},
		{"256", nil, 256, api.OK},
		{"257", nil, 257, api.ErrRange},
		{"the least number", nil, math.MinInt, api.ErrRange},
		{"the greatest number", nil, math.MaxInt, api.ErrRange},
		{"13 texts", make([]string, 13), 8, api.ErrMany},
		{"12 texts", make([]string, 12), 8, api.OK},
		{"513 bytes", []string{"", as(513)}, 8, api.ErrMany},
		{"512 bytes", []string{"", as(512)}, 8, api.OK},
		{"13 texts, -1", make([]string, 13), -1, api.ErrMany},
		{"513 bytes, 257", []string{as(513)}, 257, api.ErrMany},
	} {
		if d, err := train.Train(c.l, c.size); d != "" || err != c.want {
			t.Errorf("%s: %q %d, not %d", c.name, d, err, c.want)
		}
	}
}

func TestE2TrainDrawn(t *testing.T) {
	r := rand.New(rand.NewSource(2))
	long := 0
	for range 400 {
		l := drawTexts(r)
		size := []int{r.Intn(13), r.Intn(257), 256}[r.Intn(3)]
		want := wantTrain(l, size)
		if len(want) > 40 {
			long++
		}
		if d, err := train.Train(l, size); d != want || err != api.OK {
			t.Errorf("Train(%q, %d): %q %d, not %q", l, size, d, err, want)
		}
	}
	if long < 40 {
		t.Errorf("only %d long ones", long)
	}
}

// TestE2TrainAllSmall: two texts of five bytes, of two letters.
func TestE2TrainAllSmall(t *testing.T) {
	text := func(bits int) string {
		b := make([]byte, 5)
		for i := range b {
			b[i] = "ab"[bits>>i&1]
		}
		return string(b)
	}
	for bits := range 1 << 10 {
		l := []string{text(bits), text(bits >> 5)}
		for _, size := range []int{4, 8, 256} {
			want := wantTrain(l, size)
			if d, err := train.Train(l, size); d != want || err != api.OK {
				t.Errorf("Train(%q, %d): %q %d, not %q", l, size, d, err, want)
			}
		}
	}
}

func TestE3Pieces(t *testing.T) {
	r := rand.New(rand.NewSource(3))
	full := 0
	for range 300 {
		l, size := drawTexts(r), r.Intn(257)
		if r.Intn(3) == 0 {
			// Enough bytes that differ, in two texts, for the greatest dictionary.
			b := make([]byte, 500)
			r.Read(b)
			l, size = []string{string(b), as(12) + string(b)}, 250+r.Intn(7)
		}
		d, err := train.Train(l, size)
		if err != api.OK || len(d) > size || len(d)%4 != 0 {
			t.Fatalf("Train(%q, %d): %q %d", l, size, d, err)
		}
		if len(d) > 252 {
			full++
		}
		for i := 0; i < len(d); i += 4 {
			if n := wantCount(l, d[i:i+4]); n < 2 {
				t.Errorf("%q of Train(%q, %d) stands in %d", d[i:i+4], l, size, n)
			}
			if strings.Contains(d[i+4:], d[i:i+4]) {
				t.Errorf("%q stands twice in %q", d[i:i+4], d)
			}
		}
	}
	if full == 0 {
		t.Error("no full one was drawn")
	}
}

// TestP1ZeroWithError: whatever is handed in, a call ends, and an error comes alone.
func TestP1ZeroWithError(t *testing.T) {
	r := rand.New(rand.NewSource(4))
	for range 2000 {
		l := drawTexts(r)
		switch r.Intn(3) {
		case 0:
			l = append(l, "abcd", "abcd", as(513))
		case 1:
			l = append(l, times("abcd", 13)...)
		}
		size := []int{-1, 257, 9, math.MinInt, math.MaxInt, r.Int()}[r.Intn(6)]
		if n, err := train.Count(l, as(r.Intn(7))); err != api.OK && n != 0 {
			t.Errorf("Count(%q): %d %d", l, n, err)
		}
		if d, err := train.Train(l, size); err != api.OK && d != "" {
			t.Errorf("Train(%q, %d): %q %d", l, size, d, err)
		}
	}
}

// TestP2OnlyRead: neither a list that is handed in nor the room behind it is changed.
func TestP2OnlyRead(t *testing.T) {
	room := []string{"zzzzaaaa", "aaaazzzz", "abcd", "spare", ""}
	was := slices.Clone(room)
	for n := range 4 {
		train.Count(room[:n], "abcd")
		train.Train(room[:n], 20)
		if !slices.Equal(room, was) {
			t.Fatalf("of %d texts: %q, not %q", n, room, was)
		}
	}
}

// TestP3SameAgain: what was asked between, and how a map lies, changes no answer.
func TestP3SameAgain(t *testing.T) {
	r := rand.New(rand.NewSource(5))
	for range 60 {
		l, size := drawTexts(r), r.Intn(257)
		first, _ := train.Train(l, size)
		for range 10 {
			train.Train(drawTexts(r), 40)
			train.Count(l, "the ")
			if d, err := train.Train(l, size); d != first || err != api.OK {
				t.Fatalf("Train(%q, %d): %q, then %q %d", l, size, first, d, err)
			}
		}
	}
}

// TestP4Long: what is too long is told, and not gone through.
func TestP4Long(t *testing.T) {
	many := make([]string, 1<<24)
	if d, err := train.Train(many, 8); d != "" || err != api.ErrMany {
		t.Errorf("Train: %q %d", d, err)
	}
	if n, err := train.Count([]string{as(1 << 24)}, "aaaa"); n != 0 || err != api.ErrMany {
		t.Errorf("Count: %d %d", n, err)
	}
	if n, err := train.Count(nil, as(1<<24)); n != 0 || err != api.ErrRange {
		t.Errorf("Count: %d %d", n, err)
	}
}
