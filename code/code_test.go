package code_test

import (
	"math"
	"math/rand"
	"slices"
	"strings"
	"testing"

	"pocketpress/api"
	"pocketpress/code"
)

// lens is the lengths of all signs, or the counts.
type lens = [api.Signs]int

// each is n for every sign.
func each(n int) lens {
	var l lens
	for s := range l {
		l[s] = n
	}
	return l
}

// wantCheck asks the rules of C1; the sum is told in halves of halves.
func wantCheck(l lens) api.Errno {
	for _, n := range l {
		if n < 0 || n > 15 {
			return api.ErrRange
		}
	}
	sum := 0.0
	for _, n := range l {
		if n != 0 {
			sum += math.Pow(0.5, float64(n))
		}
	}
	if sum == 0 || sum > 1 {
		return api.ErrForm
	}
	return api.OK
}

// wantWords tells the words as texts of 0 and 1.
func wantWords(l lens) [api.Signs]string {
	var order []int
	for s, n := range l {
		if n > 0 {
			order = append(order, s)
		}
	}
	slices.SortStableFunc(order, func(a, b int) int { return l[a] - l[b] })
	var words [api.Signs]string
	last := ""
	for i, s := range order {
		if i > 0 {
			last = oneMore(last)
		}
		last += strings.Repeat("0", l[s]-len(last))
		words[s] = last
	}
	return words
}

// oneMore adds 1 to a number of 0 and 1.
func oneMore(w string) string {
	at := strings.LastIndexByte(w, '0')
	return w[:at] + "1" + strings.Repeat("0", len(w)-at-1)
}

// wantWrite makes the bytes from a text of 0 and 1.
func wantWrite(l lens, s string) (string, api.Errno) {
	if err := wantCheck(l); err != api.OK {
		return "", err
	}
	if len(s) > 1024 {
		return "", api.ErrMany
	}
	words := wantWords(l)
	var all strings.Builder
	for _, c := range []byte(s) {
		for _, half := range []byte{c >> 4, c & 15} {
			if words[half] == "" {
				return "", api.ErrNone
			}
			all.WriteString(words[half])
		}
	}
	return packed(all.String()), api.OK
}

// packed makes bytes of 0 and 1.
func packed(bits string) string {
	for len(bits)%8 != 0 {
		bits += "0"
	}
	var b []byte
	for i := 0; i < len(bits); i += 8 {
		c := 0
		for _, bit := range bits[i : i+8] {
			c = 2*c + int(bit-'0')
		}
		b = append(b, byte(c))
	}
	return string(b)
}

// wantBuild makes one of two trees as long as there are two.
func wantBuild(counts lens) lens {
	type tree struct {
		weight int
		signs  []int
	}
	var trees []tree
	for s, c := range counts {
		if c > 0 {
			trees = append(trees, tree{c, []int{s}})
		}
	}
	var l lens
	if len(trees) == 1 {
		l[trees[0].signs[0]] = 1
	}
	for len(trees) > 1 {
		slices.SortFunc(trees, func(a, b tree) int {
			if a.weight != b.weight {
				return a.weight - b.weight
			}
			return slices.Min(a.signs) - slices.Min(b.signs)
		})
		both := tree{trees[0].weight + trees[1].weight, slices.Concat(trees[0].signs, trees[1].signs)}
		for _, s := range both.signs {
			l[s]++
		}
		trees = append([]tree{both}, trees[2:]...)
	}
	return l
}

func drawCounts(r *rand.Rand) lens {
	var c lens
	many := 1 + r.Intn(16)
	for range many {
		c[r.Intn(16)] = []int{1, 1, 2, 3, 5, 8, r.Intn(2049), 1 << r.Intn(12)}[r.Intn(8)]
	}
	return c
}

func drawLens(r *rand.Rand) lens {
	var l lens
	for s := range l {
		l[s] = []int{0, 3, 4, 5, 6, 1 + r.Intn(15)}[r.Intn(6)]
	}
	return l
}

func drawBytes(r *rand.Rand, n int) string {
	b := make([]byte, n)
	r.Read(b)
	return string(b)
}

// drawWritable draws bytes all of whose halves have words.
func drawWritable(r *rand.Rand, l lens, n int) string {
	var signs []int
	for s, k := range l {
		if k > 0 {
			signs = append(signs, s)
		}
	}
	var b []byte
	for range n {
		b = append(b, byte(16*signs[r.Intn(len(signs))]+signs[r.Intn(len(signs))]))
	}
	return string(b)
}

func TestC1Check(t *testing.T) {
	for _, c := range []struct {
		l    lens
		want api.Errno
	}{
		{lens{}, api.ErrForm},
		{lens{1}, api.OK},
		{lens{15: 15}, api.OK},
		{lens{1, 1}, api.OK},
		{lens{1, 1, 15}, api.ErrForm},
		{lens{1, 1, 1}, api.ErrForm},
		{lens{1, 2, 3, 4, 5, 6, 7, 8, 9, 10, 11, 12, 13, 14, 15, 15}, api.OK},
		{lens{1, 2, 3, 4, 5, 6, 7, 8, 9, 10, 11, 12, 13, 14, 14, 15}, api.ErrForm},
		{lens{15, 15, 14, 13, 12, 11, 10, 9, 8, 7, 6, 5, 4, 3, 2, 1}, api.OK},
		{each(4), api.OK},
		{each(15), api.OK},
		{each(3), api.ErrForm},
		{each(1), api.ErrForm},
		{lens{3, 4, 4, 4, 4, 4, 4, 4, 4, 4, 4, 4, 4, 4, 4, 4}, api.ErrForm},
		{lens{3, 4, 4, 4, 4, 4, 4, 4, 4, 4, 4, 4, 4, 4, 4, 0}, api.OK},
		{lens{-1}, api.ErrRange},
		{lens{16}, api.ErrRange},
		{lens{1, -1}, api.ErrRange},
		{lens{1, 15: 16}, api.ErrRange},
		{lens{15: -1}, api.ErrRange},
		{lens{0: 1, 15: math.MaxInt}, api.ErrRange},
		{lens{0: 1, 15: math.MinInt}, api.ErrRange},
		{lens{1, 1, 1, 16}, api.ErrRange}, // ahead of the sum
		{lens{1, 1, 1, 15: -1}, api.ErrRange},
	} {
		if err := code.Check(c.l); err != c.want {
			t.Errorf("Check(%v): %d, not %d", c.l, err, c.want)
		}
	}
	for s := range api.Signs {
		for _, n := range []int{-1, 16} {
			l := each(4)
			l[s] = n
			if err := code.Check(l); err != api.ErrRange {
				t.Errorf("Check(%v): %d, not ErrRange", l, err)
			}
		}
	}
}

func TestC1CheckDrawn(t *testing.T) {
	r := rand.New(rand.NewSource(1))
	told := map[api.Errno]int{}
	for range 20000 {
		l := drawLens(r)
		want := wantCheck(l)
		told[want]++
		if err := code.Check(l); err != want {
			t.Errorf("Check(%v): %d, not %d", l, err, want)
		}
	}
	if told[api.OK] < 500 || told[api.ErrForm] < 500 {
		t.Errorf("the draws are lopsided: %v", told)
	}
}

// TestC1Words: a byte's bytes are its two words.
func TestC1Words(t *testing.T) {
	for _, c := range []struct {
		l    lens
		s    string
		bits string
	}{
		{lens{1, 1}, "\x00", "00"},
		{lens{1, 1}, "\x01", "01"},
		{lens{1, 1}, "\x10", "10"},
		{lens{0: 1, 1: 2, 6: 2}, "\x01", "010"},
		{lens{0: 1, 1: 2, 6: 2}, "\x16", "1011"},
		{lens{2, 1, 2}, "\x01", "100"},
		{lens{2, 1, 2}, "\x21", "110"},
		{lens{3, 3, 1}, "\x01", "100101"},
		{lens{3, 3, 1}, "\x20", "0100"},
		{lens{5: 3, 9: 1}, "\x59", "1000"},
		{lens{5: 15, 9: 15}, "\x59", "000000000000000000000000000001"},
		{lens{5: 15, 9: 13}, "\x59", "0000000000001000000000000000"},
		{each(4), "\x4a", "01001010"},
		{lens{1, 2, 3, 4, 5, 6, 7, 8, 9, 10, 11, 12, 13, 14, 15, 15}, "\xef", "111111111111110111111111111111"},
	} {
		want := packed(c.bits)
		if b, err := code.Write(c.l, c.s); b != want || err != api.OK {
			t.Errorf("Write(%v, %x): %x %d, not %x", c.l, c.s, b, err, want)
		}
		if s, err := code.Read(c.l, want, 1); s != c.s || err != api.OK {
			t.Errorf("Read(%v, %x, 1): %x %d, not %x", c.l, want, s, err, c.s)
		}
	}
}

func TestC2Cost(t *testing.T) {
	for _, c := range []struct {
		l, counts lens
		want      int
		err       api.Errno
	}{
		{lens{0: 1, 1: 2, 6: 2}, lens{0: 5, 1: 2, 6: 1}, 11, api.OK},
		{lens{1}, lens{}, 0, api.OK},
		{lens{1, 1}, lens{7}, 7, api.OK},
		{each(4), each(1), 64, api.OK},
		{each(15), each(2048), 16 * 15 * 2048, api.OK},
		{lens{3: 15}, lens{3: 2048}, 15 * 2048, api.OK},
		{lens{}, lens{1}, 0, api.ErrForm},
		{lens{1, 1, 1}, lens{1}, 0, api.ErrForm},
		{lens{16}, lens{1}, 0, api.ErrRange},
		{lens{1}, lens{2049}, 0, api.ErrRange},
		{lens{1}, lens{-1}, 0, api.ErrRange},
		{lens{1}, lens{15: -1}, 0, api.ErrRange},
		{lens{1}, lens{15: 2049}, 0, api.ErrRange},
		{each(4), lens{15: math.MaxInt}, 0, api.ErrRange},
		{each(4), lens{15: math.MinInt}, 0, api.ErrRange},
		{lens{1}, lens{0: 1, 1: 1}, 0, api.ErrNone},
		{lens{1}, lens{15: 2048}, 0, api.ErrNone},
		{lens{}, lens{-1}, 0, api.ErrForm},                   // Check's ahead of the counts
		{lens{1, 1, 1}, lens{5: 2049, 6: 1}, 0, api.ErrForm}, // and of what has no word
		{lens{1}, lens{1: 1, 2: 2049}, 0, api.ErrRange},      // the counts ahead of what has no word
		{lens{1}, lens{1: 1, 2: -1}, 0, api.ErrRange},
	} {
		if n, err := code.Cost(c.l, c.counts); n != c.want || err != c.err {
			t.Errorf("Cost(%v, %v): %d %d, not %d %d", c.l, c.counts, n, err, c.want, c.err)
		}
	}
}

func TestC2CostDrawn(t *testing.T) {
	r := rand.New(rand.NewSource(2))
	for range 3000 {
		l, counts := drawLens(r), drawCounts(r)
		want, err := 0, wantCheck(l)
		for s, c := range counts {
			want += c * l[s]
			if err == api.OK && c > 0 && l[s] == 0 {
				err = api.ErrNone
			}
		}
		if err != api.OK {
			want = 0
		}
		if n, e := code.Cost(l, counts); n != want || e != err {
			t.Errorf("Cost(%v, %v): %d %d, not %d %d", l, counts, n, e, want, err)
		}
	}
}

func TestC2BuildKnown(t *testing.T) {
	for _, c := range []struct{ counts, want lens }{
		{lens{0: 5, 1: 2, 6: 1}, lens{0: 1, 1: 2, 6: 2}},
		{lens{7: 3}, lens{7: 1}},
		{lens{0: 2048}, lens{0: 1}},
		{lens{15: 1}, lens{15: 1}},
		{lens{3: 1, 15: 2048}, lens{3: 1, 15: 1}},
		{each(1), each(4)},
		{each(2048), each(4)},
		{lens{1, 1, 1}, lens{2, 2, 1}},       // of one weight the least signs first
		{lens{2, 1, 1}, lens{1, 2, 2}},       // 1 and 2 are one tree that weighs 2
		{lens{1, 1, 2}, lens{2, 2, 1}},       // that tree, with 0, is ahead of 2
		{lens{1, 2, 1, 2}, lens{3, 2, 3, 1}}, // 0 and 2 weigh 2, and are ahead of 1 and 3
		{lens{2, 2, 1, 1, 1}, lens{2, 2, 3, 3, 2}},
		{lens{1, 1, 2, 3, 5, 8, 13, 21, 34, 55, 89, 144, 233, 377, 610, 987}, lens{15, 15, 14, 13, 12, 11, 10, 9, 8, 7, 6, 5, 4, 3, 2, 1}},
	} {
		if l, err := code.Build(c.counts); l != c.want || err != api.OK {
			t.Errorf("Build(%v): %v %d, not %v", c.counts, l, err, c.want)
		}
	}
}

func TestC2BuildDrawn(t *testing.T) {
	r := rand.New(rand.NewSource(3))
	for range 8000 {
		counts := drawCounts(r)
		if counts == (lens{}) {
			continue
		}
		want := wantBuild(counts)
		if l, err := code.Build(counts); l != want || err != api.OK {
			t.Errorf("Build(%v): %v %d, not %v", counts, l, err, want)
		}
		if err := code.Check(want); err != api.OK {
			t.Errorf("Check(%v): %d", want, err)
		}
	}
}

func TestC2BuildErrors(t *testing.T) {
	for _, c := range []struct {
		counts lens
		want   api.Errno
	}{
		{lens{}, api.ErrNone},
		{lens{-1}, api.ErrRange},
		{lens{2049}, api.ErrRange},
		{lens{15: -1}, api.ErrRange},
		{lens{15: 2049}, api.ErrRange},
		{lens{0: 1, 1: 2, 9: -1}, api.ErrRange},
		{lens{0: 1, 1: 2, 9: 2049}, api.ErrRange},
		{lens{0: math.MaxInt, 1: math.MaxInt}, api.ErrRange},
		{lens{0: 1, 9: math.MinInt}, api.ErrRange},
	} {
		if l, err := code.Build(c.counts); l != (lens{}) || err != c.want {
			t.Errorf("Build(%v): %v %d, not %d", c.counts, l, err, c.want)
		}
	}
}

func TestC3WriteErrors(t *testing.T) {
	full, over := strings.Repeat("\x01", 1024), strings.Repeat("\x01", 1025)
	for _, c := range []struct {
		name string
		l    lens
		s    string
		want api.Errno
	}{
		{"no word for the lower half", lens{1}, "\x01", api.ErrNone},
		{"no word for the higher half", lens{1}, "\x10", api.ErrNone},
		{"no word for the last half", lens{1}, "\x00\x00\x0f", api.ErrNone},
		{"too many", lens{1, 1}, over, api.ErrMany},
		{"too many, without words", lens{1}, over, api.ErrMany},
		{"very many", each(4), strings.Repeat("\x01", 1<<20), api.ErrMany},
		{"without words", lens{1}, full, api.ErrNone},
		{"a wrong code", lens{1, 1, 1}, "", api.ErrForm},
		{"a code of nothing", lens{}, "", api.ErrForm},
		{"a code out of range", lens{16}, "", api.ErrRange},
		{"a wrong code, and too many", lens{1, 1, 1}, over, api.ErrForm},
		{"a code out of range, and too many", lens{-1}, over, api.ErrRange},
		{"a code of nothing, without words", lens{}, "\x01", api.ErrForm},
	} {
		if b, err := code.Write(c.l, c.s); b != "" || err != c.want {
			t.Errorf("%s: Write: %d bytes %d, not %d", c.name, len(b), err, c.want)
		}
	}
}

func TestC3Many(t *testing.T) {
	for _, l := range []lens{{1, 1}, each(4), each(15)} {
		s := strings.Repeat("\x01\x10\x11\x00", 256)
		want, _ := wantWrite(l, s)
		b, err := code.Write(l, s)
		if b != want || err != api.OK {
			t.Errorf("Write(%v, 1024 bytes): %d bytes %d", l, len(b), err)
		}
		if u, err := code.Read(l, b, 1024); u != s || err != api.OK {
			t.Errorf("Read(%v, .., 1024): %d bytes %d", l, len(u), err)
		}
	}
}

func TestC3ReadErrors(t *testing.T) {
	for _, c := range []struct {
		name string
		l    lens
		b    string
		n    int
		want api.Errno
	}{
		{"nothing of nothing", lens{1}, "", 0, api.OK},
		{"n is -1", lens{1}, "", -1, api.ErrRange},
		{"n is least", lens{1}, "", math.MinInt, api.ErrRange},
		{"n is 1025", lens{1}, strings.Repeat("\x00", 257), 1025, api.ErrRange},
		{"n is 1025, with as many", each(4), strings.Repeat("\x00", 1025), 1025, api.ErrRange},
		{"n is greatest", lens{1}, "", math.MaxInt, api.ErrRange},
		{"n is 1024", lens{1}, strings.Repeat("\x00", 256), 1024, api.OK},
		{"a wrong code, n is -1", lens{1, 1, 1}, "", -1, api.ErrForm},
		{"a wrong code", lens{1, 1, 1}, "", 0, api.ErrForm},
		{"a code of nothing", lens{}, "", 0, api.ErrForm},
		{"a code out of range", lens{16}, "\xff", 0, api.ErrRange},
		{"too few bytes", lens{1}, "", 1, api.ErrForm},
		{"too few bits", each(4), "\x12", 2, api.ErrForm},
		{"half of a byte", each(5), "\x00", 1, api.ErrForm},
		{"a byte behind nothing", lens{1}, "\x00", 0, api.ErrForm},
		{"a byte behind", each(4), "\x12\x00", 1, api.ErrForm},
		{"a byte behind a part", lens{1}, "\x00\x00", 1, api.ErrForm},
		{"very many behind", lens{1}, strings.Repeat("\x00", 1<<20), 1, api.ErrForm},
		{"no word is 1", lens{1}, "\x80", 1, api.ErrForm},
		{"no word is 01", lens{1}, "\x40", 1, api.ErrForm},
		{"a 1 behind", lens{1}, "\x20", 1, api.ErrForm},
		{"a 1 at the end", lens{1}, "\x01", 1, api.ErrForm},
		{"a 1 at the end of two bytes", each(6), "\x00\x01", 1, api.ErrForm},
		{"a 1 right behind", each(6), "\x00\x08", 1, api.ErrForm},
		{"no word of all 1", lens{15: 15}, "\xff\xff\xff\xff", 1, api.ErrForm},
	} {
		want := ""
		if c.want == api.OK {
			want = strings.Repeat("\x00", c.n)
		}
		if s, err := code.Read(c.l, c.b, c.n); s != want || err != c.want {
			t.Errorf("%s: Read: %x %d, not %x %d", c.name, s, err, want, c.want)
		}
	}
}

// TestC3ReadPadding: the 0 behind may be read as words too, if there are as many as that.
func TestC3ReadPadding(t *testing.T) {
	for n := range 9 {
		s, err := code.Read(lens{1, 1}, "\x00", n)
		want, wantErr := "", api.ErrForm
		if n >= 1 && n <= 4 {
			want, wantErr = strings.Repeat("\x00", n), api.OK
		}
		if s != want || err != wantErr {
			t.Errorf("Read({1, 1}, 00, %d): %x %d, not %x %d", n, s, err, want, wantErr)
		}
	}
}

// TestC3ReadAll: of all bytes of one or two, those are read that Write makes, and no others.
func TestC3ReadAll(t *testing.T) {
	for _, l := range []lens{{1}, {1, 1}, {0: 1, 1: 2, 6: 2}, {2, 3, 3, 2}, {5: 3, 9: 1}, {4: 5, 6: 8, 7: 7, 8: 4}, each(4), {3, 4, 4, 4, 4, 4, 4, 4, 4, 4, 4, 4, 4, 4, 4, 0}} {
		for n := range 3 {
			made := map[string]string{}
			for i := range 1 << (8 * n) {
				s := string([]byte{byte(i >> 8), byte(i)}[2-n:])
				if b, err := wantWrite(l, s); err == api.OK {
					made[b] = s
				}
			}
			ask := func(b string) {
				want, ok := made[b]
				s, err := code.Read(l, b, n)
				if ok && (s != want || err != api.OK) || !ok && (s != "" || err != api.ErrForm) {
					t.Errorf("Read(%v, %x, %d): %x %d", l, b, n, s, err)
				}
			}
			ask("")
			for i := range 1 << 16 {
				ask(string([]byte{byte(i >> 8), byte(i)}))
				if i < 256 {
					ask(string([]byte{byte(i)}))
				}
			}
			for b := range made {
				ask(b)
				ask(b + "\x00")
			}
		}
	}
}

func TestC3Drawn(t *testing.T) {
	r := rand.New(rand.NewSource(4))
	for range 3000 {
		l := drawLens(r)
		s := drawBytes(r, r.Intn(6))
		want, wantErr := wantWrite(l, s)
		if b, err := code.Write(l, s); b != want || err != wantErr {
			t.Errorf("Write(%v, %x): %x %d, not %x %d", l, s, b, err, want, wantErr)
		}
	}
}

func TestC4ReadOfWrite(t *testing.T) {
	r := rand.New(rand.NewSource(5))
	asked := 0
	for range 4000 {
		l := drawLens(r)
		if r.Intn(2) == 0 {
			l, _ = code.Build(drawCounts(r))
		}
		if wantCheck(l) != api.OK {
			continue
		}
		asked++
		s := drawWritable(r, l, r.Intn(40))
		want, _ := wantWrite(l, s)
		b, err := code.Write(l, s)
		if b != want || err != api.OK {
			t.Errorf("Write(%v, %x): %x %d, not %x", l, s, b, err, want)
		}
		if u, err := code.Read(l, b, len(s)); u != s || err != api.OK {
			t.Errorf("Read of Write(%v, %x): %x %d", l, s, u, err)
		}
		// What is read of bytes that are changed is what makes them.
		if b == "" {
			continue
		}
		c := []byte(b)
		c[r.Intn(len(c))] ^= 1 << r.Intn(8)
		u, err := code.Read(l, string(c), len(s))
		if err != api.OK && (u != "" || err != api.ErrForm) {
			t.Errorf("Read(%v, %x, %d): %x %d", l, c, len(s), u, err)
		}
		if w, _ := wantWrite(l, u); err == api.OK && (w != string(c) || len(u) != len(s)) {
			t.Errorf("Read(%v, %x, %d): %x, of which Write makes %x", l, c, len(s), u, w)
		}
	}
	if asked < 1000 {
		t.Errorf("only %d were asked", asked)
	}
}

// leastCost tries each code of lengths 1 to 5 for the signs.
func leastCost(counts lens, signs []int, l lens) int {
	if len(signs) == 0 {
		if wantCheck(l) != api.OK {
			return math.MaxInt
		}
		cost := 0
		for s, c := range counts {
			cost += c * l[s]
		}
		return cost
	}
	least := math.MaxInt
	for n := 1; n <= 5; n++ {
		l[signs[0]] = n
		least = min(least, leastCost(counts, signs[1:], l))
	}
	return least
}

func TestC4NoneCostsLess(t *testing.T) {
	r := rand.New(rand.NewSource(6))
	for range 60 {
		var counts lens
		signs := r.Perm(16)[:1+r.Intn(5)]
		for _, s := range signs {
			counts[s] = 1 + []int{r.Intn(4), r.Intn(20), r.Intn(2048)}[r.Intn(3)]
		}
		least := leastCost(counts, signs, lens{})
		l, err := code.Build(counts)
		if n, f := code.Cost(l, counts); n != least || err != api.OK || f != api.OK {
			t.Errorf("Build(%v): %v %d, cost %d %d, not %d", counts, l, err, n, f, least)
		}
	}
}

func TestC4NoDrawnCostsLess(t *testing.T) {
	r := rand.New(rand.NewSource(7))
	for range 3000 {
		counts, other := drawCounts(r), drawLens(r)
		l, err := code.Build(counts)
		if err != api.OK {
			continue
		}
		n, err := code.Cost(l, counts)
		if err != api.OK {
			t.Errorf("Cost(%v, %v): %d", l, counts, err)
		}
		if m, err := code.Cost(other, counts); err == api.OK && m < n {
			t.Errorf("%v: %v costs %d, %v costs %d", counts, l, n, other, m)
		}
	}
}

// TestP1ZeroWithError: whatever is handed in, a call ends, and an error comes alone.
func TestP1ZeroWithError(t *testing.T) {
	r := rand.New(rand.NewSource(9))
	wild := func(l lens) lens {
		if r.Intn(2) == 0 {
			l[r.Intn(16)] = []int{-1, 16, 2049, math.MinInt, math.MaxInt, r.Int()}[r.Intn(6)]
		}
		return l
	}
	for range 10000 {
		l, counts, b := wild(drawLens(r)), wild(drawCounts(r)), drawBytes(r, r.Intn(9))
		n := []int{r.Intn(5), -1, 1024, 1025, math.MinInt, math.MaxInt}[r.Intn(6)]
		if k, err := code.Cost(l, counts); err != api.OK && k != 0 {
			t.Errorf("Cost(%v, %v): %d %d", l, counts, k, err)
		}
		if k, err := code.Build(counts); err != api.OK && k != (lens{}) {
			t.Errorf("Build(%v): %v %d", counts, k, err)
		}
		if s, err := code.Write(l, b); err != api.OK && s != "" {
			t.Errorf("Write(%v, %x): %x %d", l, b, s, err)
		}
		if s, err := code.Read(l, b, n); err != api.OK && s != "" {
			t.Errorf("Read(%v, %x, %d): %x %d", l, b, n, s, err)
		}
	}
}

// TestP4Long: what is too long is told, and not gone through.
func TestP4Long(t *testing.T) {
	long := strings.Repeat("\x00", 1<<24)
	if b, err := code.Write(each(4), long); b != "" || err != api.ErrMany {
		t.Errorf("Write: %d bytes %d", len(b), err)
	}
	if s, err := code.Read(each(4), long, 1024); s != "" || err != api.ErrForm {
		t.Errorf("Read: %d bytes %d", len(s), err)
	}
}

func TestP3SameAgain(t *testing.T) {
	r := rand.New(rand.NewSource(8))
	type asked struct {
		counts, l lens
		s, b      string
		cost      int
	}
	ask := func(counts lens, s string) asked {
		a := asked{counts: counts, s: s}
		a.l, _ = code.Build(counts)
		a.cost, _ = code.Cost(a.l, counts)
		a.b, _ = code.Write(a.l, s)
		code.Read(a.l, a.b, len(s))
		return a
	}
	var all []asked
	for range 50 {
		all = append(all, ask(drawCounts(r), drawBytes(r, r.Intn(3))))
	}
	slices.Reverse(all)
	for _, a := range all {
		code.Build(lens{-1})
		if again := ask(a.counts, a.s); again != a {
			t.Errorf("%v, then %v", a, again)
		}
	}
}
