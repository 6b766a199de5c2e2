package syntax

import (
	"strconv"
	"strings"

	"askance/api"
)

const (
	spaces = " \n"
	signs  = "(),;.=<+-*"
	quote  = '\''
)

// reader goes through a text word by word. Once something went wrong it is at
// the end of the text, where no word is found any more: so nobody who reads
// need ask whether all is well, until all is read.
type reader struct {
	word  string // the one at hand; empty: there are no more
	rest  string // what is behind it
	depth int    // how many brackets and nots of an expression are around it
	wrong bool
}

// newReader is a reader at the first word of a text.
func newReader(text string) *reader {
	r := &reader{rest: text}
	r.next()
	return r
}

// fail remembers that something went wrong.
func (r *reader) fail() {
	r.word, r.rest, r.wrong = "", "", true
}

// next goes on to the next word.
func (r *reader) next() {
	s := strings.TrimLeft(r.rest, spaces)
	size := wordSize(s)
	if size == 0 && s != "" {
		r.fail()
		return
	}
	r.word, r.rest = s[:size], s[size:]
}

// wordSize is how many bytes the word has with which a text begins; 0: it
// begins with none.
func wordSize(s string) int {
	switch {
	case s == "":
		return 0
	case letter(s[0]):
		return runOf(letter, s)
	case digit(s[0]):
		return runOf(digit, s)
	case s[0] == quote:
		return quotedSize(s)
	case strings.IndexByte(signs, s[0]) >= 0:
		return 1
	}
	return 0
}

// runOf is how many bytes of one kind a text begins with.
func runOf(kind func(byte) bool, s string) int {
	n := 0
	for n < len(s) && kind(s[n]) {
		n++
	}
	return n
}

func letter(c byte) bool { return 'a' <= c && c <= 'z' }

func digit(c byte) bool { return '0' <= c && c <= '9' }

// quotedSize is of a word that begins with a quote, up to the next one.
func quotedSize(s string) int {
	end := strings.IndexByte(s[1:], quote)
	if end < 0 {
		return 0
	}
	return 1 + end + 1
}

// begins is whether the word at hand begins with a byte of a kind.
func (r *reader) begins(kind func(byte) bool) bool {
	return r.word != "" && kind(r.word[0])
}

// skip goes on to the next word, if the one at hand is this, and tells whether
// it was.
func (r *reader) skip(word string) bool {
	if r.word != word {
		return false
	}
	r.next()
	return true
}

// want goes on behind words that must follow.
func (r *reader) want(words ...string) {
	for _, word := range words {
		if !r.skip(word) {
			r.fail()
		}
	}
}

// name is the word at hand, that must be one.
func (r *reader) name() string {
	s := r.word
	if !Named(s) {
		r.fail()
		return ""
	}
	r.next()
	return s
}

// number is what the word at hand means, that must be one.
func (r *reader) number() int {
	s := r.word
	n, err := strconv.Atoi(s)
	if err != nil || len(s) > 1 && s[0] == '0' || n > api.MaxNumber {
		r.fail()
		return 0
	}
	r.next()
	return n
}

// list is what one reads, again and again while there are commas behind.
func list[T any](r *reader, one func() T) []T {
	l := []T{one()}
	for r.skip(",") {
		l = append(l, one())
	}
	return l
}

// inBrackets is such a list between brackets.
func inBrackets[T any](r *reader, one func() T) []T {
	r.want("(")
	l := list(r, one)
	r.want(")")
	return l
}
