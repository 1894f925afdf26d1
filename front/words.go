package front

import (
	"slices"
	"strconv"
	"strings"

	"ashlar/api"
)

const (
	mark   = "%" // what a byte's two digits stand behind; alone it is the empty text
	digits = "0123456789ABCDEF"
	comma  = ","
	none   = "-" // the empty list
	bound  = 1_000_000_000
)

// plain tells whether a byte stands for itself.
func plain(b byte) bool {
	switch {
	case b >= 'A' && b <= 'Z', b >= 'a' && b <= 'z', b >= '0' && b <= '9':
		return true
	}
	return strings.IndexByte("/._-", b) >= 0
}

// Quote is any text as a word.
func Quote(s string) string {
	if s == "" {
		return mark
	}
	word := make([]byte, 0, len(s))
	for _, b := range []byte(s) {
		if plain(b) {
			word = append(word, b)
		} else {
			word = append(word, mark[0], digits[b>>4], digits[b&15])
		}
	}
	return string(word)
}

// Unquote is the text that a word stands for.
func Unquote(w string) (string, api.Errno) {
	switch w {
	case mark:
		return "", api.OK
	case "":
		return "", api.ErrLine
	}
	text := make([]byte, 0, len(w))
	for rest := w; rest != ""; {
		b, n := first(rest)
		if n == 0 {
			return "", api.ErrLine
		}
		text = append(text, b)
		rest = rest[n:]
	}
	return string(text), api.OK
}

// first is the byte that the beginning of a word stands for, and how many bytes of the word say so: 0, if they say none.
func first(w string) (byte, int) {
	if plain(w[0]) {
		return w[0], 1
	}
	if w[0] != mark[0] || len(w) < 3 {
		return 0, 0
	}
	high, low := strings.IndexByte(digits, w[1]), strings.IndexByte(digits, w[2])
	if high < 0 || low < 0 {
		return 0, 0
	}
	b := byte(high<<4 | low)
	if plain(b) { // it has a shorter word, and a text has no two
		return 0, 0
	}
	return b, 3
}

// numbers are those of a word, between commas; nil, if it has others than a line may have.
func numbers(w string) []int {
	var list []int
	for part := range strings.SplitSeq(w, comma) {
		n, err := strconv.Atoi(part)
		if err != nil || strconv.Itoa(n) != part { // Atoi takes +1 and 01, too
			return nil
		}
		list = append(list, n)
	}
	if slices.ContainsFunc(list, func(n int) bool { return n <= -bound || n >= bound }) {
		return nil
	}
	return list
}

// listed is a list of numbers as a word.
func listed(list []int) string {
	if len(list) == 0 {
		return none
	}
	var word []byte
	for i, n := range list {
		if i > 0 {
			word = append(word, comma...)
		}
		word = strconv.AppendInt(word, int64(n), 10)
	}
	return string(word)
}

// lists are those of words; false, if one of them is no list.
func lists(words []string) ([][]int, bool) {
	var all [][]int
	for _, w := range words {
		list := []int{}
		if w != none {
			list = numbers(w)
		}
		if list == nil {
			return nil, false
		}
		all = append(all, list)
	}
	return all, true
}
