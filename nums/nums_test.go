package nums_test

import (
	"math"
	"math/rand"
	"strings"
	"testing"

	"pocketpress/api"
	"pocketpress/nums"
)

// rests are what may stand behind.
var rests = []string{"", "z", "\x00", "\x80", "\xff\xff\x01", "some more text"}

// edgeNums are the numbers around each count of bytes, and some more.
func edgeNums() []int {
	l := []int{0, 1, 2, 42, 300, 5000, 65535, 1 << 20, 123456789, api.MaxNum - 1, api.MaxNum}
	for bits := 7; bits < 31; bits += 7 {
		l = append(l, 1<<bits-1, 1<<bits, 1<<bits+1)
	}
	return l
}

// wantPut makes the bytes of n from its bits.
func wantPut(n int) string {
	s := ""
	for {
		part := n & 127
		n >>= 7
		if n == 0 {
			return s + string([]byte{byte(part)})
		}
		s += string([]byte{byte(part | 128)})
	}
}

func TestA1PutKnown(t *testing.T) {
	for n, want := range map[int]string{
		0:          "\x00",
		1:          "\x01",
		127:        "\x7f",
		128:        "\x80\x01",
		300:        "\xac\x02",
		16383:      "\xff\x7f",
		16384:      "\x80\x80\x01",
		2097151:    "\xff\xff\x7f",
		2097152:    "\x80\x80\x80\x01",
		268435455:  "\xff\xff\xff\x7f",
		268435456:  "\x80\x80\x80\x80\x01",
		api.MaxNum: "\xff\xff\xff\xff\x07",
	} {
		if s, err := nums.Put(n); s != want || err != api.OK {
			t.Errorf("Put(%d): %x %d, not %x", n, s, err, want)
		}
	}
}

func TestA1PutBytes(t *testing.T) {
	check := func(n int) {
		if s, err := nums.Put(n); s != wantPut(n) || err != api.OK {
			t.Errorf("Put(%d): %x %d, not %x", n, s, err, wantPut(n))
		}
	}
	for n := range 40000 {
		check(n)
	}
	for _, n := range edgeNums() {
		check(n)
	}
}

func TestA1PutRange(t *testing.T) {
	for _, n := range []int{-1, -2, -128, -300, math.MinInt32, math.MinInt, api.MaxNum + 1, api.MaxNum + 2, 1 << 32, 1<<32 + 5, 1 << 35, math.MaxInt} {
		if s, err := nums.Put(n); s != "" || err != api.ErrRange {
			t.Errorf("Put(%d): %x %d, not ErrRange", n, s, err)
		}
	}
}

func TestA1TakeNone(t *testing.T) {
	none := []string{"", "\x80", "\xff", "\x80\x80", "\xff\xff\xff\xff"}
	whole := []string{
		"\x80\x00", "\x81\x00", "\xff\x00", "\x80\x80\x00", "\xff\xff\xff\xff\x00", // a part too many
		"\xff\xff\xff\xff\x08", "\x80\x80\x80\x80\x08", "\x80\x80\x80\x80\x10", "\xff\xff\xff\xff\x7f", // too great
		"\x80\x80\x80\x80\x80", "\x80\x80\x80\x80\x80\x01", "\xff\xff\xff\xff\xff\x01", "\x80\x80\x80\x80\x80\x80\x80\x80\x80\x01", "\x80\x80\x80\x80\x80\x80\x80\x80\x80\x80\x01",
	}
	for _, s := range whole {
		for _, r := range rests {
			none = append(none, s+r)
		}
	}
	none = append(none, strings.Repeat("\x80", 100)+"\x01", strings.Repeat("\xff", 1<<16))
	for _, s := range none {
		if n, rest, err := nums.Take(s); n != 0 || rest != "" || err != api.ErrForm {
			t.Errorf("Take(%x): %d %x %d, not ErrForm", s[:min(len(s), 20)], n, rest, err)
		}
	}
}

func TestA1TakeOfEveryTwoBytes(t *testing.T) {
	for i := range 1 << 16 {
		s := string([]byte{byte(i >> 8), byte(i)})
		n, rest, err := nums.Take(s)
		switch {
		case s[0] < 128:
			if n != int(s[0]) || rest != s[1:] || err != api.OK {
				t.Errorf("Take(%x): %d %x %d", s, n, rest, err)
			}
		case s[1] >= 128 || s[1] == 0:
			if n != 0 || rest != "" || err != api.ErrForm {
				t.Errorf("Take(%x): %d %x %d, not ErrForm", s, n, rest, err)
			}
		default:
			if n != int(s[0])-128+128*int(s[1]) || rest != "" || err != api.OK {
				t.Errorf("Take(%x): %d %x %d", s, n, rest, err)
			}
		}
	}
}

func TestA2Text(t *testing.T) {
	for _, n := range []int{0, 1, 2, 127, 128, 300, api.MaxText - 1, api.MaxText} {
		text := strings.Repeat("ab\x00\xff", n/4+1)[:n]
		if s, err := nums.Text(text); s != wantPut(n)+text || err != api.OK {
			t.Errorf("Text of %d bytes: %d bytes %d", n, len(s), err)
		}
	}
	for _, n := range []int{api.MaxText + 1, api.MaxText + 2, 1000, 1 << 16, 1 << 20} {
		if s, err := nums.Text(strings.Repeat("a", n)); s != "" || err != api.ErrMany {
			t.Errorf("Text of %d bytes: %d bytes %d, not ErrMany", n, len(s), err)
		}
	}
}

func TestA2TakeText(t *testing.T) {
	for _, n := range []int{0, 1, 2, 127, 128, 300, api.MaxText - 1, api.MaxText} {
		text := strings.Repeat("\x80ab\x00\xff", n/5+1)[:n]
		for _, r := range rests {
			got, rest, err := nums.TakeText(wantPut(n) + text + r)
			if got != text || rest != r || err != api.OK {
				t.Errorf("TakeText of %d bytes and %x: %d bytes, %x, %d", n, r, len(got), rest, err)
			}
			made, _ := nums.Text(text)
			if got, rest, err := nums.TakeText(made + r); got != text || rest != r || err != api.OK {
				t.Errorf("TakeText of Text of %d bytes and %x: %d bytes, %x, %d", n, r, len(got), rest, err)
			}
		}
	}
}

func TestA2TakeTextNone(t *testing.T) {
	long := strings.Repeat("a", 1200)
	for _, s := range []string{
		"", "\x80", "\x80\x00", "\x81\x00a", "\x82\x00abc", "\x80\x80\x80\x80\x80\x01",
		"\x01", "\x02a", "\x7f" + long[:126], "\x80\x01" + long[:127], "\xff\xff\xff\xff\x07", "\xff\xff\xff\xff\x07" + long,
		wantPut(api.MaxText) + long[:api.MaxText-1],
		wantPut(api.MaxText+1) + long[:api.MaxText+1], wantPut(api.MaxText+1) + long, wantPut(1000) + long,
		"\xff\xff\xff\xff\x08" + long,
	} {
		if text, rest, err := nums.TakeText(s); text != "" || rest != "" || err != api.ErrForm {
			t.Errorf("TakeText(%x..): %d bytes, %d bytes, %d, not ErrForm", s[:min(len(s), 9)], len(text), len(rest), err)
		}
	}
}

func TestA3Sum(t *testing.T) {
	for text, want := range map[string]int{
		"":                                      0,
		"\x00":                                  0,
		"a":                                     97,
		"ab":                                    293,
		"ba":                                    292,
		"\x00a":                                 194,
		"a\x00":                                 97,
		"\xff":                                  255,
		"abc":                                   590,
		strings.Repeat("z", 512):                31232,
		strings.Repeat("z", 513):                28282,
		"\x80" + "\xc8" + "\x01":                531,
		strings.Repeat("\x01", 4):               10,
		strings.Repeat("\x02", 1<<8-1) + "\x00": 65280,
		strings.Repeat("\x02", 1<<8):            256,
	} {
		if n := nums.Sum(text); n != want {
			t.Errorf("Sum of %d bytes: %d, not %d", len(text), n, want)
		}
	}
}

func TestA3SumOfLong(t *testing.T) {
	for _, n := range []uint64{1 << 10, 1<<16 - 1, 1 << 16, 1<<16 + 1, 1 << 17, 1<<22 + 7} {
		// 255 times the sum of all places, which 64 bits hold.
		want := int(255 * (n * (n + 1) / 2) % (1 << 16))
		if got := nums.Sum(strings.Repeat("\xff", int(n))); got != want {
			t.Errorf("Sum of %d bytes: %d, not %d", n, got, want)
		}
	}
}

func TestA3TakeOfPut(t *testing.T) {
	check := func(n int, r string) {
		s, err := nums.Put(n)
		if err != api.OK {
			t.Fatalf("Put(%d): %d", n, err)
		}
		if k, rest, err := nums.Take(s + r); k != n || rest != r || err != api.OK {
			t.Errorf("Take of Put(%d) and %x: %d %x %d", n, r, k, rest, err)
		}
	}
	for n := range 20000 {
		check(n, rests[n%len(rests)])
	}
	for _, n := range edgeNums() {
		for _, r := range rests {
			check(n, r)
		}
		check(n, strings.Repeat("\x80", 70000))
	}
}

// TestP1ZeroWithError: whatever is handed in, a call ends, and an error comes alone.
func TestP1ZeroWithError(t *testing.T) {
	r := rand.New(rand.NewSource(1))
	for range 20000 {
		b := make([]byte, r.Intn(9))
		for i := range b {
			b[i] = []byte{0, 1, 2, 7, 8, 127, 128, 129, 255}[r.Intn(9)]
		}
		n := r.Int() >> r.Intn(64) * (1 - 2*r.Intn(2))
		if s, err := nums.Put(n); err != api.OK && s != "" {
			t.Errorf("Put(%d): %x %d", n, s, err)
		}
		if n, rest, err := nums.Take(string(b)); err != api.OK && (n != 0 || rest != "") {
			t.Errorf("Take(%x): %d %x %d", b, n, rest, err)
		}
		if text, rest, err := nums.TakeText(string(b)); err != api.OK && (text != "" || rest != "") {
			t.Errorf("TakeText(%x): %x %x %d", b, text, rest, err)
		}
	}
}

// TestP4Long: what is long is no other than what is short.
func TestP4Long(t *testing.T) {
	long := strings.Repeat("\x80long", 1<<22)
	if n, rest, err := nums.Take("\xac\x02" + long); n != 300 || rest != long || err != api.OK {
		t.Errorf("Take: %d, %d bytes, %d", n, len(rest), err)
	}
	if text, rest, err := nums.TakeText("\x02ab" + long); text != "ab" || rest != long || err != api.OK {
		t.Errorf("TakeText: %q, %d bytes, %d", text, len(rest), err)
	}
	if s, err := nums.Text(long); s != "" || err != api.ErrMany {
		t.Errorf("Text: %d bytes, %d", len(s), err)
	}
}

func TestP3SameAgain(t *testing.T) {
	type answer struct {
		put, text, rest, taken, left string
		n, sum                       int
		e, f, g, h                   api.Errno
	}
	ask := func(n int, s string) answer {
		var a answer
		a.put, a.e = nums.Put(n)
		a.n, a.rest, a.f = nums.Take(s)
		a.text, a.g = nums.Text(s)
		a.taken, a.left, a.h = nums.TakeText(s)
		a.sum = nums.Sum(s)
		return a
	}
	inputs := []string{"", "\x03abcd", "\x80", "\x05ab", strings.Repeat("q", 600), "\xac\x02z"}
	var first []answer
	for i, s := range inputs {
		first = append(first, ask(i*1000-1, s))
	}
	for i := len(inputs) - 1; i >= 0; i-- {
		if again := ask(i*1000-1, inputs[i]); again != first[i] {
			t.Errorf("%x: %v, then %v", inputs[i], first[i], again)
		}
	}
}
