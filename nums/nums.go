// Package nums: numbers as bytes: see doc/01-nums.md.
package nums

import (
	"strings"

	"pocketpress/api"
)

const (
	partBits = 7
	more     = 1 << partBits // stands on each part but the last
	maxParts = 5             // as many as MaxNum has
	sums     = 1 << 16
)

// Put: see the chapter.
func Put(n int) (string, api.Errno) {
	if n < 0 || n > api.MaxNum {
		return "", api.ErrRange
	}
	var b []byte
	for ; n >= more; n /= more {
		b = append(b, byte(n%more+more))
	}
	return string(append(b, byte(n))), api.OK
}

// Take: see the chapter.
func Take(s string) (int, string, api.Errno) {
	n, size := begin(s)
	if size == 0 {
		return 0, "", api.ErrForm
	}
	return n, strings.Clone(s[size:]), api.OK
}

// Text: see the chapter.
func Text(t string) (string, api.Errno) {
	if len(t) > api.MaxText {
		return "", api.ErrMany
	}
	n, err := Put(len(t))
	return n + t, err
}

// TakeText: see the chapter.
func TakeText(s string) (string, string, api.Errno) {
	n, size := begin(s)
	// A longer text is none that Text makes.
	if size == 0 || n > api.MaxText || n > len(s)-size {
		return "", "", api.ErrForm
	}
	end := size + n
	return strings.Clone(s[size:end]), strings.Clone(s[end:]), api.OK
}

// Sum: see the chapter.
func Sum(t string) int {
	sum := 0
	for i := range len(t) {
		// The place is cut down first, so that no long text can overflow.
		sum = (sum + int(t[i])*((i+1)%sums)) % sums
	}
	return sum
}

// begin tells the number that s begins with and how many bytes it has: 0, if it begins with none.
func begin(s string) (int, int) {
	var n uint64
	for i := range min(len(s), maxParts) {
		n += uint64(s[i]%more) << (partBits * i)
		if s[i] >= more {
			continue
		}
		// Put ends with no part of 0 that it could spare.
		if s[i] == 0 && i > 0 || n > api.MaxNum {
			return 0, 0
		}
		return int(n), i + 1
	}
	return 0, 0
}
