// Package code: codes: see doc/03-code.md.
package code

import "pocketpress/api"

const (
	maxCount = 4 * api.MaxText
	maxBytes = 2 * api.MaxText
	none     = -1 // no sign
)

// Check: see the chapter.
func Check(l [api.Signs]int) api.Errno {
	sum := 0
	for _, n := range l {
		if n < 0 || n > api.MaxLen {
			return api.ErrRange
		}
		if n > 0 {
			sum += 1 << (api.MaxLen - n)
		}
	}
	if sum == 0 || sum > 1<<api.MaxLen {
		return api.ErrForm
	}
	return api.OK
}

// Cost: see the chapter.
func Cost(l, counts [api.Signs]int) (int, api.Errno) {
	if err := Check(l); err != api.OK {
		return 0, err
	}
	if !countable(counts) {
		return 0, api.ErrRange
	}
	cost := 0
	for s, c := range counts {
		if c > 0 && l[s] == 0 {
			return 0, api.ErrNone
		}
		cost += c * l[s]
	}
	return cost, api.OK
}

// Build: see the chapter.
func Build(counts [api.Signs]int) ([api.Signs]int, api.Errno) {
	var lengths [api.Signs]int
	if !countable(counts) {
		return lengths, api.ErrRange
	}
	// A tree is known by its least sign: this is what orders trees of one weight.
	weights := counts
	var trees [api.Signs]int
	for s := range trees {
		trees[s] = s
	}
	a, b := lightest(weights)
	if a == none {
		return lengths, api.ErrNone
	}
	if b == none {
		lengths[a] = 1
	}
	for b != none {
		least := min(a, b)
		for s, t := range trees {
			if t == a || t == b {
				trees[s] = least
				lengths[s]++
			}
		}
		sum := weights[a] + weights[b]
		weights[a], weights[b] = 0, 0
		weights[least] = sum
		a, b = lightest(weights)
	}
	return lengths, api.OK
}

// Write: see the chapter.
func Write(l [api.Signs]int, s string) (string, api.Errno) {
	if err := Check(l); err != api.OK {
		return "", err
	}
	if len(s) > maxBytes {
		return "", api.ErrMany
	}
	w := words(l)
	var out bits
	for i := range len(s) {
		high, low := s[i]/api.Signs, s[i]%api.Signs
		if l[high] == 0 || l[low] == 0 {
			return "", api.ErrNone
		}
		out.put(w[high], l[high])
		out.put(w[low], l[low])
	}
	return string(out.b), api.OK
}

// Read: see the chapter.
func Read(l [api.Signs]int, b string, n int) (string, api.Errno) {
	if err := Check(l); err != api.OK {
		return "", err
	}
	if n < 0 || n > maxBytes {
		return "", api.ErrRange
	}
	r := reader{l: l, words: words(l), b: b}
	var out []byte
	for range n {
		high, low := r.sign(), r.sign()
		if high == none || low == none {
			return "", api.ErrForm
		}
		out = append(out, byte(high*api.Signs+low))
	}
	if !r.ended() {
		return "", api.ErrForm
	}
	return string(out), api.OK
}

func countable(counts [api.Signs]int) bool {
	for _, c := range counts {
		if c < 0 || c > maxCount {
			return false
		}
	}
	return true
}

// lightest finds the two that weigh least, of the same weight the lesser first; what weighs 0 is no tree.
func lightest(weights [api.Signs]int) (int, int) {
	first, second := none, none
	for s, w := range weights {
		switch {
		case w == 0:
		case first == none || w < weights[first]:
			first, second = s, first
		case second == none || w < weights[second]:
			second = s
		}
	}
	return first, second
}

// words tells each sign's word as a number; l is a right code.
func words(l [api.Signs]int) [api.Signs]int {
	var w [api.Signs]int
	next := 0
	for n := 1; n <= api.MaxLen; n++ {
		next *= 2
		for s := range l {
			if l[s] == n {
				w[s] = next
				next++
			}
		}
	}
	return w
}

// bits is bytes that are written bit by bit.
type bits struct {
	b []byte
	n int
}

func (x *bits) put(word, length int) {
	for i := length - 1; i >= 0; i-- {
		if x.n%8 == 0 {
			x.b = append(x.b, 0)
		}
		x.b[x.n/8] |= byte(word>>i&1) << (7 - x.n%8)
		x.n++
	}
}

// reader is at a bit of what is read.
type reader struct {
	l, words [api.Signs]int
	b        string
	at       int
}

// sign reads a word and tells its sign; none, if there is no word.
func (r *reader) sign() int {
	word := 0
	for n := 1; n <= api.MaxLen && r.at < 8*len(r.b); n++ {
		word = 2*word + int(r.b[r.at/8]>>(7-r.at%8)&1)
		r.at++
		for s := range r.l {
			if r.l[s] == n && r.words[s] == word {
				return s
			}
		}
	}
	return none
}

// ended asks whether nothing is behind what was read but the 0 that the last byte wants.
func (r *reader) ended() bool {
	if len(r.b) != (r.at+7)/8 {
		return false
	}
	return r.at%8 == 0 || r.b[r.at/8]<<(r.at%8) == 0
}
