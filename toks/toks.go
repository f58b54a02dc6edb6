// Package toks: copies: see doc/02-toks.md.
package toks

import (
	"strings"

	"pocketpress/api"
	"pocketpress/nums"
)

// Check: see the chapter.
func Check(dict string, l []api.Tok) api.Errno {
	if len(dict) > api.MaxDict {
		return api.ErrMany
	}
	m := making{dict: len(dict)}
	for _, t := range l {
		if err := m.add(t); err != api.OK {
			return err
		}
	}
	return api.OK
}

// Play: see the chapter.
func Play(dict string, l []api.Tok) (string, api.Errno) {
	if err := Check(dict, l); err != api.OK {
		return "", err
	}
	all := []byte(dict)
	for _, t := range l {
		all = append(all, t.Lit...)
		// One by one, since a copy may reach into what it makes itself.
		for range t.Len {
			all = append(all, all[len(all)-t.Far])
		}
	}
	return string(all[len(dict):]), api.OK
}

// Parse: see the chapter.
func Parse(dict, text string) ([]api.Tok, api.Errno) {
	if len(dict) > api.MaxDict || len(text) > api.MaxText {
		return nil, api.ErrMany
	}
	p := past{all: dict + text, places: map[string][]int{}}
	at := len(dict)
	from := at
	var l []api.Tok
	layLit := func() {
		if from < at {
			l = append(l, api.Tok{Lit: strings.Clone(p.all[from:at])})
		}
	}
	for at < len(p.all) {
		p.reach(at)
		far, n := p.longest(at)
		if n < api.MinCopy {
			at++
			continue
		}
		layLit()
		l = append(l, api.Tok{Far: far, Len: n})
		at += n
		from = at
	}
	layLit()
	return l, api.OK
}

// Write: see the chapter.
func Write(dict string, l []api.Tok) (string, api.Errno) {
	if err := Check(dict, l); err != api.OK {
		return "", err
	}
	var b []byte
	// Right toks have no number that Put refuses.
	put := func(n int) {
		s, _ := nums.Put(n)
		b = append(b, s...)
	}
	for _, t := range l {
		if t.Lit != "" {
			put(2 * len(t.Lit))
			b = append(b, t.Lit...)
			continue
		}
		put(2*t.Len + 1)
		put(t.Far)
	}
	return string(b), api.OK
}

// Read: see the chapter.
func Read(dict, s string) ([]api.Tok, api.Errno) {
	if len(dict) > api.MaxDict {
		return nil, api.ErrMany
	}
	// No right tok has more than twice as many bytes as it makes.
	if len(s) > 2*api.MaxText {
		return nil, api.ErrForm
	}
	var l []api.Tok
	m := making{dict: len(dict)}
reading:
	for s != "" {
		t, rest, err := take(s)
		switch {
		case err != api.OK:
			break reading
		case m.add(t) != api.OK:
			break reading
		}
		l = append(l, t)
		s = rest
	}
	if s != "" {
		return nil, api.ErrForm
	}
	return l, api.OK
}

// making is what one tok must know of the dictionary and of the toks ahead of it.
type making struct {
	dict, made int
	lit        bool // the tok right ahead has a Lit
}

// add asks whether t is right behind the toks that were added, and adds it.
func (m *making) add(t api.Tok) api.Errno {
	if !m.fits(t) {
		return api.ErrForm
	}
	made := m.made + len(t.Lit) + t.Len
	if made > api.MaxText {
		return api.ErrMany
	}
	m.made = made
	m.lit = t.Lit != ""
	return api.OK
}

// fits asks for t's form alone.
func (m *making) fits(t api.Tok) bool {
	if t.Lit != "" {
		return t.Far == 0 && t.Len == 0 && !m.lit
	}
	return api.MinCopy <= t.Len && t.Len <= api.MaxCopy && 1 <= t.Far && t.Far <= m.dict+m.made
}

// past is the dictionary and the text, and where each MinCopy bytes of it stand, as far as it was reached.
type past struct {
	all     string
	places  map[string][]int
	reached int
}

// reach takes in all places ahead of at.
func (p *past) reach(at int) {
	for ; p.reached < at && p.reached+api.MinCopy <= len(p.all); p.reached++ {
		k := p.all[p.reached : p.reached+api.MinCopy]
		p.places[k] = append(p.places[k], p.reached)
	}
}

// longest finds the longest copy for at, and of several the nearest one; 0, 0 if there is none.
func (p *past) longest(at int) (int, int) {
	most := min(len(p.all)-at, api.MaxCopy)
	if most < api.MinCopy {
		return 0, 0
	}
	far, n := 0, 0
	places := p.places[p.all[at:at+api.MinCopy]]
	for i := len(places) - 1; i >= 0 && n < most; i-- {
		if k := p.alike(places[i], at, most); k > n {
			far, n = at-places[i], k
		}
	}
	return far, n
}

// alike counts how many bytes, at most most, are the same from two places on.
func (p *past) alike(a, b, most int) int {
	n := 0
	for n < most && p.all[a+n] == p.all[b+n] {
		n++
	}
	return n
}

// take takes one tok, right or not, off the bytes.
func take(s string) (api.Tok, string, api.Errno) {
	head, rest, err := nums.Take(s)
	if err != api.OK {
		return api.Tok{}, "", err
	}
	n := head / 2
	if head%2 == 1 {
		far, rest, err := nums.Take(rest)
		return api.Tok{Far: far, Len: n}, rest, err
	}
	if n > len(rest) {
		return api.Tok{}, "", api.ErrForm
	}
	return api.Tok{Lit: strings.Clone(rest[:n])}, rest[n:], api.OK
}
