package block_test

import (
	"math/rand"
	"slices"
	"strings"
	"testing"

	"pocketpress/api"
	"pocketpress/block"
	"pocketpress/code"
	"pocketpress/nums"
	"pocketpress/toks"
)

// as is n bytes that are alike.
func as(n int) string { return strings.Repeat("a", n) }

// wordy draws a text that has much in it twice.
func wordy(r *rand.Rand, n int) string {
	words := []string{"the ", "word", "abc", "a", " ", "xyz", "aaaa", "\x00", "\xff\x80"}
	s := ""
	for len(s) < n {
		if at := r.Intn(len(s) + 1); r.Intn(3) == 0 {
			s += s[at:min(len(s), at+1+r.Intn(90))]
		}
		s += words[r.Intn(len(words))]
	}
	return s[:n]
}

// lettered draws a text with little in it twice, of the first so many of 256 bytes from a place on.
func lettered(r *rand.Rand, n, from, letters int) string {
	b := make([]byte, n)
	for i := range b {
		b[i] = byte(from + r.Intn(letters))
	}
	return string(b)
}

// drawText draws one of several kinds, so that each kind of block comes to be.
func drawText(r *rand.Rand, n int) string {
	switch r.Intn(4) {
	case 0:
		return wordy(r, n)
	case 1:
		return lettered(r, n, 0, 256)
	case 2:
		return lettered(r, n, 'a', 2+r.Intn(14))
	}
	return wordy(r, n/2) + lettered(r, n-n/2, '0', 10)
}

// bitsOf makes bytes of 0 and 1 as they are written down.
func bitsOf(bits string) string {
	b := make([]byte, (len(bits)+7)/8)
	for i, c := range bits {
		if c == '1' {
			b[i/8] |= 128 >> (i % 8)
		}
	}
	return string(b)
}

// coded makes a block 2 of bytes by any code.
func coded(t *testing.T, l [api.Signs]int, s string) string {
	t.Helper()
	b := []byte{2}
	for i, n := range l {
		if i%2 == 0 {
			b = append(b, byte(n<<4))
		} else {
			b[len(b)-1] |= byte(n)
		}
	}
	n, err := nums.Put(len(s))
	if err != api.OK {
		t.Fatalf("Put(%d): %d", len(s), err)
	}
	w, err := code.Write(l, s)
	if err != api.OK {
		t.Fatalf("Write(%v, %x): %d", l, s, err)
	}
	return string(b) + n + w
}

// copied makes a block 1 of the toks of Parse.
func copied(t *testing.T, dict, text string) string {
	t.Helper()
	l, err := toks.Parse(dict, text)
	if err != api.OK {
		t.Fatalf("Parse(%q, %q): %d", dict, text, err)
	}
	s, err := toks.Write(dict, l)
	if err != api.OK {
		t.Fatalf("Write(%q, %v): %d", dict, l, err)
	}
	return "\x01" + s
}

// built is the code of Build for the halves of bytes.
func built(t *testing.T, s string) [api.Signs]int {
	t.Helper()
	var counts [api.Signs]int
	for _, c := range []byte(s) {
		counts[c>>4]++
		counts[c&15]++
	}
	l, err := code.Build(counts)
	if err != api.OK {
		t.Fatalf("Build(%v): %d", counts, err)
	}
	return l
}

// allBlocks makes the blocks among which Pack takes one, by rising bytes.
func allBlocks(t *testing.T, dict, text string) []string {
	t.Helper()
	one := copied(t, dict, text)
	l := []string{"\x00" + text, one}
	if len(one) > 1 {
		l = append(l, coded(t, built(t, one[1:]), one[1:]))
	}
	return l
}

// wantPack is the shortest one, of several the first.
func wantPack(t *testing.T, dict, text string) string {
	t.Helper()
	best := ""
	for _, b := range allBlocks(t, dict, text) {
		if best == "" || len(b) < len(best) {
			best = b
		}
	}
	return best
}

func askPack(t *testing.T, dict, text string) string {
	t.Helper()
	want := wantPack(t, dict, text)
	b, err := block.Pack(dict, text)
	if b != want || err != api.OK {
		t.Errorf("Pack(%q, %q): %x %d, not %x", dict, text, b, err, want)
	}
	return want
}

func TestD1PackKnown(t *testing.T) {
	for _, c := range []struct{ dict, text, want string }{
		{"", "", "\x00"},
		{"abc", "", "\x00"},
		{"", "a", "\x00a"},
		{"", "\x00\xff", "\x00\x00\xff"},
		{"hello ", "hello hello hello hello ", "\x01\x31\x06"},
		{"abc", "abc", "\x01\x07\x03"},
		{"abc", "xabcabcabcz", "\x01\x02x\x07\x04\x0d\x03\x02z"},
		{"", "abcabc", "\x00abcabc"},               // block 1 has as many bytes
		{"", "abcabca", "\x01\x06abc\x09\x03"},     // and here one less
		{"abcd", "abcdxyz", "\x01\x09\x04\x06xyz"}, // and here
		// 64 and 64 and 2 bytes are not one copy
		{"a", as(130), "\x01\x81\x01\x01\x81\x01\x01\x04aa"},
	} {
		if b, err := block.Pack(c.dict, c.text); b != c.want || err != api.OK {
			t.Errorf("Pack(%q, %q): %x %d, not %x", c.dict, c.text, b, err, c.want)
		}
	}
}

// TestD1PackCoded: a block 2, with each of its bytes told by hand.
func TestD1PackCoded(t *testing.T) {
	// 40 bytes with no three of them twice: one Lit, 0x50 and they; each byte is 6 and a half of 1, 2, 3, 4.
	const text = "aaabaacaadabbabcabdacbaccacdadbadcaddbbb"
	l, err := toks.Parse("", text)
	if len(l) != 1 || err != api.OK {
		t.Fatalf("Parse: %v %d", l, err)
	}
	// The halves: 0 and 5 once, 1 16 times, 2 10, 3 and 4 7, 6 40.
	// 0 and 5 become one (2), with 3 (9), with 4 (16), with 2 (26; it has a less sign than 1), with 1 (42), with 6 (82).
	words := map[byte]string{6: "0", 1: "10", 2: "110", 4: "1110", 3: "11110", 0: "111110", 5: "111111"}
	bits := ""
	for _, c := range []byte("\x50" + text) {
		bits += words[c>>4] + words[c&15]
	}
	want := "\x02" + "\x62\x35\x46\x10\x00\x00\x00\x00" + "\x29" + bitsOf(bits)
	if b, err := block.Pack("", text); b != want || err != api.OK {
		t.Errorf("Pack: %x %d, not %x", b, err, want)
	}
	if u, err := block.Unpack("", want); u != text || err != api.OK {
		t.Errorf("Unpack: %q %d", u, err)
	}
}

// TestD1PackDrawn: each kind of block comes, and each two of them with one length.
func TestD1PackDrawn(t *testing.T) {
	r := rand.New(rand.NewSource(1))
	var kinds [3]int
	var alike [3]int
	for range 6000 {
		dict, text := wordy(r, r.Intn(60)), drawText(r, r.Intn(100))
		want := askPack(t, dict, text)
		kinds[want[0]]++
		l := allBlocks(t, dict, text)
		for i := range l {
			if len(l) == 3 && len(l[(i+1)%3]) == len(l[(i+2)%3]) && len(want) == len(l[(i+1)%3]) {
				alike[i]++
			}
		}
	}
	if slices.Contains(kinds[:], 0) || slices.Contains(alike[:], 0) {
		t.Errorf("kinds %v, alike but for one %v", kinds, alike)
	}
}

func TestD1PackLongest(t *testing.T) {
	r := rand.New(rand.NewSource(2))
	for range 200 {
		askPack(t, wordy(r, api.MaxDict-r.Intn(2)), drawText(r, api.MaxText-r.Intn(2)))
	}
	askPack(t, as(api.MaxDict), as(api.MaxText))
}

func TestD1PackMany(t *testing.T) {
	for _, c := range []struct {
		dict, text int
		want       api.Errno
	}{
		{256, 512, api.OK}, {257, 512, api.ErrMany}, {256, 513, api.ErrMany}, {257, 513, api.ErrMany},
		{257, 0, api.ErrMany}, {0, 513, api.ErrMany}, {1 << 20, 1 << 20, api.ErrMany},
	} {
		b, err := block.Pack(as(c.dict), as(c.text))
		if err != c.want || (err != api.OK) != (b == "") {
			t.Errorf("Pack of %d, %d: %d bytes %d", c.dict, c.text, len(b), err)
		}
	}
}

type unpackCase struct {
	name, dict, b, want string
	err                 api.Errno
}

func askUnpack(t *testing.T, cases []unpackCase) {
	t.Helper()
	for _, c := range cases {
		if u, err := block.Unpack(c.dict, c.b); u != c.want || err != c.err {
			t.Errorf("%s: Unpack(%q, %.40x): %q %d, not %q %d", c.name, c.dict, c.b, u, err, c.want, c.err)
		}
	}
}

func TestD2Unpack(t *testing.T) {
	askUnpack(t, []unpackCase{
		{"no byte", "", "", "", api.ErrForm},
		{"kind 3", "", "\x03", "", api.ErrForm},
		{"kind 3 with more", "", "\x03a", "", api.ErrForm},
		{"kind 255", "", "\xff", "", api.ErrForm},
		{"an empty text", "", "\x00", "", api.OK},
		{"a text", "", "\x00\x00\x01\x02\xff", "\x00\x01\x02\xff", api.OK},
		{"the longest text", "", "\x00" + as(512), as(512), api.OK},
		{"a text that is too long", "", "\x00" + as(513), "", api.ErrForm},
		{"no toks", "", "\x01", "", api.OK},
		{"a lit", "", "\x01\x02a", "a", api.OK},
		{"a byte behind", "", "\x01\x02ab", "", api.ErrForm},
		{"a byte is wanting", "", "\x01\x04a", "", api.ErrForm},
		{"an empty lit", "", "\x01\x00", "", api.ErrForm},
		{"two lits", "", "\x01\x02a\x02b", "", api.ErrForm},
		{"a copy out of the dictionary", "abc", "\x01\x07\x03", "abc", api.OK},
		{"a copy from ahead of the dictionary", "abc", "\x01\x07\x04", "", api.ErrForm},
		{"a copy without a dictionary", "", "\x01\x07\x03", "", api.ErrForm},
		{"toks that Parse does not find", "abc", "\x01\x06abc\x07\x06\x07\x03", "abcabcabc", api.OK},
		{"a lit where a copy would do", "hello", "\x01\x0ahello", "hello", api.OK},
		{"a number with a part too many", "", "\x01\x82\x00a", "", api.ErrForm},
		{"512 bytes", "a", "\x01" + strings.Repeat("\x81\x01\x01", 8), as(512), api.OK},
		{"513 bytes", "a", "\x01" + strings.Repeat("\x81\x01\x01", 8) + "\x02a", "", api.ErrForm},
		{"513 bytes by lit", "", "\x01\x82\x08" + as(513), "", api.ErrForm},
		{"576 bytes", "a", "\x01" + strings.Repeat("\x81\x01\x01", 9), "", api.ErrForm},
	})
}

// TestD2UnpackCoded: the code is that of the halves 0, 2, 6 and 1, two bits each: 0 is 00, 1 is 01, 2 is 10, 6 is 11.
func TestD2UnpackCoded(t *testing.T) {
	const l = "\x02\x22\x20\x00\x20\x00\x00\x00\x00"
	const one = "\x02\x11\x00\x00\x00\x00\x00\x00\x00" // 0 is 0, 1 is 1
	askUnpack(t, []unpackCase{
		{"no code", "", "\x02", "", api.ErrForm},
		{"a code of seven bytes", "", l[:8], "", api.ErrForm},
		{"no number", "", l, "", api.ErrForm},
		{"a number that does not end", "", l + "\x83", "", api.ErrForm},
		{"no bytes", "", l + "\x00", "", api.OK},
		{"no bytes, but one behind", "", l + "\x00\x00", "", api.ErrForm},
		{"02 61", "", l + "\x02" + bitsOf("0010"+"1101"), "a", api.OK},
		{"02 61, and a byte", "", l + "\x02" + bitsOf("0010"+"1101") + "\x00", "", api.ErrForm},
		{"02 61, told as one", "", l + "\x01" + bitsOf("0010"+"1101"), "", api.ErrForm},
		{"02 61, told as three", "", l + "\x03" + bitsOf("0010"+"1101"), "", api.ErrForm},
		{"02 61 by a long number", "", l + "\x82\x00" + bitsOf("0010"+"1101"), "", api.ErrForm},
		{"02 61 62, two lits' bytes", "", l + "\x03" + bitsOf("0010"+"1101"+"1110"), "", api.ErrForm},
		{"02 alone is no tok", "", l + "\x01" + bitsOf("0010"), "", api.ErrForm},
		{"06 61 62 66, with 0 behind", "", l + "\x04" + bitsOf("0011"+"1101"+"1110"+"1111"), "abf", api.OK},
		{"22 and 17 bytes", "", l + "\x12" + bitsOf("1010"+strings.Repeat("1101", 17)), as(17), api.OK},
		{"22 and 17 bytes, with a bit behind", "", l + "\x13" + bitsOf("1010"+strings.Repeat("1101", 17)+"0000"), "", api.ErrForm},
		{"a code of no words", "", "\x02\x00\x00\x00\x00\x00\x00\x00\x00\x00", "", api.ErrForm},
		{"a code of too many words", "", "\x02\x11\x10\x00\x00\x00\x00\x00\x00\x00", "", api.ErrForm},
		{"a code of one word", "", "\x02\x10\x00\x00\x00\x00\x00\x00\x00\x00", "", api.OK},
		{"a code of one long word", "", "\x02\x00\x00\x00\x00\x00\x00\x00\x0f\x00", "", api.OK},
		{"bits that are no word", "", "\x02\x02\x20\x00\x00\x00\x00\x00\x00\x01\xff", "", api.ErrForm},
		{"11 11: a copy of 8 from 17 back", "0123456789abcdefg", one + "\x02" + bitsOf("11"+"11"), "01234567", api.OK},
		{"11 11 with 16 bytes", "0123456789abcdef", one + "\x02" + bitsOf("11"+"11"), "", api.ErrForm},
		{"11 01: a copy of 8 from 1 back", "xyz", one + "\x02" + bitsOf("11"+"01"), "zzzzzzzz", api.OK},
		{"a bit behind the words", "xyz", one + "\x02" + "\xd8", "", api.ErrForm},
		{"1024 bytes that are no toks", "", one + "\x80\x08" + strings.Repeat("\x00", 256), "", api.ErrForm},
		{"1025 bytes", "", one + "\x81\x08" + strings.Repeat("\x00", 257), "", api.ErrForm},
		{"as many bytes as a number can tell", "", one + "\xff\xff\xff\xff\x07", "", api.ErrForm},
		{"more than a number can tell", "", one + "\xff\xff\xff\xff\x08", "", api.ErrForm},
	})
}

// TestD2AnyCode: a text is told by codes that Build does not tell.
func TestD2AnyCode(t *testing.T) {
	r := rand.New(rand.NewSource(3))
	for range 400 {
		dict, text := wordy(r, r.Intn(40)), drawText(r, 1+r.Intn(80))
		s := copied(t, dict, text)[1:]
		var four, rising [api.Signs]int
		for i, k := range r.Perm(api.Signs) {
			four[i] = 4
			rising[k] = min(i+1, api.MaxLen)
		}
		for _, l := range [][api.Signs]int{four, rising} {
			b := coded(t, l, s)
			if u, err := block.Unpack(dict, b); u != text || err != api.OK {
				t.Errorf("Unpack(%q, %x): %q %d, not %q", dict, b, u, err, text)
			}
			if u, err := block.Unpack(dict, b+"\x00"); u != "" || err != api.ErrForm {
				t.Errorf("Unpack(%q, %x and 00): %q %d", dict, b, u, err)
			}
			if u, err := block.Unpack(dict, b[:len(b)-1]); u != "" || err != api.ErrForm {
				t.Errorf("Unpack(%q, %x less a byte): %q %d", dict, b, u, err)
			}
		}
	}
}

// TestD2LongToks: the most bytes that right toks have, and a text that is too long, as a block 2.
func TestD2LongToks(t *testing.T) {
	var l []api.Tok
	for range api.MaxText / 4 {
		l = append(l, api.Tok{Lit: "x"}, api.Tok{Far: 200, Len: 3})
	}
	dict := as(256)
	s, err := toks.Write(dict, l)
	if len(s) != 640 || err != api.OK {
		t.Fatalf("Write: %d bytes %d", len(s), err)
	}
	text, err := toks.Play(dict, l)
	if err != api.OK {
		t.Fatalf("Play: %d", err)
	}
	for _, b := range []string{"\x01" + s, coded(t, built(t, s), s)} {
		if u, err := block.Unpack(dict, b); u != text || err != api.OK {
			t.Errorf("Unpack: %q %d", u, err)
		}
	}
	s += "\x02y"
	for _, b := range []string{"\x01" + s, coded(t, built(t, s), s)} {
		if u, err := block.Unpack(dict, b); u != "" || err != api.ErrForm {
			t.Errorf("Unpack of 513 bytes: %q %d", u, err)
		}
	}
}

func TestD2UnpackMany(t *testing.T) {
	for _, b := range []string{"", "\x00", "\x00a", "\x01\x07\x01", "\x03", "\x00" + as(513)} {
		if u, err := block.Unpack(as(257), b); u != "" || err != api.ErrMany {
			t.Errorf("Unpack with 257, %.9x: %q %d", b, u, err)
		}
	}
	if u, err := block.Unpack(as(255)+"b", "\x01\x07\x80\x02"); u != "aaa" || err != api.OK {
		t.Errorf("Unpack with 256: %q %d", u, err)
	}
}

// wantUnpack tells by the layers ahead whether it is a block.
func wantUnpack(dict, b string) (string, bool) {
	if b == "" || b[0] > 2 {
		return "", false
	}
	if b[0] == 0 {
		return b[1:], len(b) <= 513
	}
	s := b[1:]
	if b[0] == 2 {
		if len(b) < 10 {
			return "", false
		}
		var l [api.Signs]int
		for i := range l {
			l[i] = int(b[1+i/2]) >> (4 - i%2*4) & 15
		}
		n, words, err := nums.Take(b[9:])
		if err != api.OK {
			return "", false
		}
		if s, err = code.Read(l, words, n); err != api.OK {
			return "", false
		}
	}
	l, err := toks.Read(dict, s)
	if err != api.OK {
		return "", false
	}
	u, err := toks.Play(dict, l)
	return u, err == api.OK
}

// TestD2UnpackDrawn: blocks with a byte changed, one more or one less.
func TestD2UnpackDrawn(t *testing.T) {
	r := rand.New(rand.NewSource(4))
	var right, wrong [3]int
	for range 6000 {
		dict, text := wordy(r, r.Intn(40)), drawText(r, r.Intn(60))
		l := allBlocks(t, dict, text)
		b := []byte(l[r.Intn(len(l))])
		kind := b[0]
		at := r.Intn(len(b))
		switch r.Intn(4) {
		case 0:
			b[at] = byte(r.Intn(16))
		case 1:
			b[at] ^= 1 << r.Intn(8)
		case 2:
			b = slices.Insert(b, at, byte(r.Intn(4)))
		case 3:
			b = slices.Delete(b, at, at+1)
		}
		want, ok := wantUnpack(dict, string(b))
		u, err := block.Unpack(dict, string(b))
		if ok {
			right[kind]++
		} else {
			wrong[kind]++
		}
		if (err == api.OK) != ok || ok && u != want || !ok && (u != "" || err != api.ErrForm) {
			t.Errorf("Unpack(%q, %x): %q %d, not %q %v", dict, b, u, err, want, ok)
		}
	}
	if slices.Min(right[:]) < 100 || slices.Min(wrong[:]) < 20 {
		t.Errorf("%v right, %v wrong", right, wrong)
	}
}

func askRoundTrip(t *testing.T, dict, text string) {
	t.Helper()
	b, err := block.Pack(dict, text)
	if err != api.OK || len(b) == 0 || len(b) > len(text)+1 {
		t.Errorf("Pack(%q, %q): %d bytes %d", dict, text, len(b), err)
	}
	if u, err := block.Unpack(dict, b); u != text || err != api.OK {
		t.Errorf("Unpack of Pack(%q, %q): %q %d", dict, text, u, err)
	}
}

func TestD3RoundTrips(t *testing.T) {
	r := rand.New(rand.NewSource(5))
	for range 3000 {
		askRoundTrip(t, wordy(r, r.Intn(257)), drawText(r, r.Intn(r.Intn(513)+1)))
	}
	for n := range 513 {
		askRoundTrip(t, "", as(n))
		askRoundTrip(t, as(n/2), lettered(r, n, 0, 256))
	}
	for c := range 256 {
		askRoundTrip(t, "", string([]byte{byte(c)}))
	}
}

// TestD3AllSmall: all texts of up to eight bytes, two of them different.
func TestD3AllSmall(t *testing.T) {
	for n := range 9 {
		for bits := range 1 << n {
			b := make([]byte, n)
			for i := range b {
				b[i] = "ab"[bits>>i&1]
			}
			askRoundTrip(t, "", string(b))
			askRoundTrip(t, "abba", string(b))
		}
	}
}

// TestP1ZeroWithError: whatever is handed in, a call ends, and an error comes alone.
func TestP1ZeroWithError(t *testing.T) {
	r := rand.New(rand.NewSource(6))
	for range 5000 {
		dict := wordy(r, []int{0, 3, 256, 257}[r.Intn(4)])
		text := wordy(r, []int{0, 3, 512, 513}[r.Intn(4)])
		if b, err := block.Pack(dict, text); err != api.OK && b != "" {
			t.Errorf("Pack(%q, %q): %x %d", dict, text, b, err)
		}
		b := make([]byte, r.Intn(16))
		r.Read(b)
		if len(b) > 0 {
			b[0] %= 4
		}
		if u, err := block.Unpack(dict, string(b)); err != api.OK && u != "" {
			t.Errorf("Unpack(%q, %x): %q %d", dict, b, u, err)
		}
	}
}

// TestP4Long: what is too long is told, and not gone through.
func TestP4Long(t *testing.T) {
	long := as(1 << 24)
	for _, head := range []string{"\x00", "\x01", "\x01\x02a", "\x02\x11\x00\x00\x00\x00\x00\x00\x00\x02", "\x02" + long[:9], "\x03"} {
		if u, err := block.Unpack("", head+long); u != "" || err != api.ErrForm {
			t.Errorf("Unpack of %x and many: %d bytes %d", head[:1], len(u), err)
		}
	}
	if u, err := block.Unpack(long, long); u != "" || err != api.ErrMany {
		t.Errorf("Unpack: %d bytes %d", len(u), err)
	}
	if b, err := block.Pack("", long); b != "" || err != api.ErrMany {
		t.Errorf("Pack: %d bytes %d", len(b), err)
	}
}

// TestP3SameAgain: what was asked between changes no answer.
func TestP3SameAgain(t *testing.T) {
	r := rand.New(rand.NewSource(7))
	type asked struct{ dict, text, b string }
	var all []asked
	for range 80 {
		a := asked{dict: wordy(r, r.Intn(40)), text: drawText(r, r.Intn(90))}
		a.b, _ = block.Pack(a.dict, a.text)
		all = append(all, a)
	}
	slices.Reverse(all)
	for _, a := range all {
		block.Pack(as(257), a.text)
		block.Unpack("", a.b+"\x00")
		b, _ := block.Pack(a.dict, a.text)
		u, _ := block.Unpack(a.dict, b)
		if b != a.b || u != a.text {
			t.Errorf("%q %q: %x, then %x", a.dict, a.text, a.b, b)
		}
	}
}
