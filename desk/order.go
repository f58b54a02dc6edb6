package desk

import (
	"strconv"
	"strings"

	"pocketpress/api"
)

// What a line begins with.
const (
	put     = "put"
	drop    = "drop"
	train   = "train"
	compact = "compact"
	get     = "get"
	cut     = "range"
	list    = "list"
	size    = "size"
	save    = "save"
)

const maxDigits = 6

// order is a line that was read; n is its last number.
type order struct {
	verb, name, text string
	from, n          int
}

// read tells what a line says, and whether it is one of the desk's.
func read(line string) (o order, right bool) {
	defer func() {
		// The words panic where the line is none of the desk's.
		if recover() != nil {
			o, right = order{}, false
		}
	}()
	w := words{rest: line, more: true}
	o.verb = w.next()
	switch o.verb {
	case put:
		o.name = w.next()
		o.n = w.number()
		o.text = w.left()
	case drop, get:
		o.name = w.next()
	case train:
		o.n = w.number()
	case cut:
		o.name = w.next()
		o.from = w.number()
		o.n = w.number()
	case compact, list, size, save:
	default:
		return order{}, false
	}
	w.end()
	return o, true
}

// words is what is left of a line; more: there is a word, though it may be empty.
type words struct {
	rest string
	more bool
}

// next tells the next word.
func (w *words) next() string {
	need(w.more)
	var word string
	word, w.rest, w.more = strings.Cut(w.rest, blank)
	return word
}

// number tells the next word, which must be a number.
func (w *words) number() int {
	word := w.next()
	need(isNumber(word))
	// So few digits are never too many for Atoi.
	n, _ := strconv.Atoi(word)
	return n
}

// left tells all that is left, blanks too.
func (w *words) left() string {
	need(w.more)
	w.more = false
	return w.rest
}

// end takes nothing: no word may be left.
func (w *words) end() { need(!w.more) }

func need(right bool) {
	if !right {
		panic(api.ErrForm)
	}
}

func isNumber(s string) bool {
	if s == "" || len(s) > maxDigits || len(s) > 1 && s[0] == '0' {
		return false
	}
	for i := range len(s) {
		if s[i] < '0' || s[i] > '9' {
			return false
		}
	}
	return true
}
