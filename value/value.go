// Package value: see ../../shared/doc/01-value.md.
package value

import (
	"cmp"
	"strings"

	"askance/api"
)

const (
	// zeroNumber is what a key holds for the number 0: below it there is room
	// for all negative numbers, so that no number in a key has a sign, and keys
	// are ordered as the numbers are.
	zeroNumber = 1 << 30

	// textEnd is behind a text in a key: it is less than each byte of a good
	// text, so that a text is ahead of all that it begins.
	textEnd = 0

	// numberSize is how many bytes a number in a key has, its kind's byte too.
	numberSize = 5
)

// Good is whether a value may be in a row.
func Good(v api.Value) bool {
	switch v.Kind {
	case api.Null:
		return v.N == 0 && v.S == ""
	case api.Int:
		return -api.MaxNumber <= v.N && v.N <= api.MaxNumber && v.S == ""
	case api.Text:
		return v.N == 0 && goodText(v.S)
	}
	return false
}

func goodText(s string) bool {
	if len(s) > api.MaxText {
		return false
	}
	for i := range len(s) {
		if !goodByte(s[i]) {
			return false
		}
	}
	return true
}

func goodByte(c byte) bool {
	return 32 <= c && c <= 126 && c != '\''
}

// Compare two good values: nothing is ahead of numbers, these of texts.
func Compare(a, b api.Value) int {
	return cmp.Or(
		cmp.Compare(a.Kind, b.Kind),
		cmp.Compare(a.N, b.N),
		cmp.Compare(a.S, b.S),
	)
}

// And is both.
func And(a, b int) int {
	switch {
	case a == 0 || b == 0:
		return 0
	case a == 1 && b == 1:
		return 1
	}
	return 2
}

// Not is the other one.
func Not(a int) int {
	switch a {
	case 0:
		return 1
	case 1:
		return 0
	}
	return 2
}

// Or is one of both.
func Or(a, b int) int {
	switch {
	case a == 1 || b == 1:
		return 1
	case a == 0 && b == 0:
		return 0
	}
	return 2
}

// Key is values as one text; texts are ordered as values are.
func Key(l []api.Value) (string, api.Errno) {
	var key []byte
	for _, v := range l {
		if !Good(v) {
			return "", api.ErrForm
		}
		key = appendKey(key, v)
	}
	return string(key), api.OK
}

func appendKey(key []byte, v api.Value) []byte {
	key = append(key, byte(v.Kind+1))
	switch v.Kind {
	case api.Int:
		n := uint32(v.N + zeroNumber)
		key = append(key, byte(n>>24), byte(n>>16), byte(n>>8), byte(n))
	case api.Text:
		key = append(key, v.S...)
		key = append(key, textEnd)
	}
	return key
}

// Values of a text that is such a key.
func Values(s string) ([]api.Value, api.Errno) {
	var l []api.Value
	for s != "" {
		v, size := firstValue(s)
		if size == 0 || !Good(v) {
			return nil, api.ErrForm
		}
		l = append(l, v)
		s = s[size:]
	}
	return l, api.OK
}

// firstValue is the value, good or not, with which a text that is not empty
// begins, and how many bytes of it that takes; 0: it begins with none.
func firstValue(s string) (api.Value, int) {
	switch int(s[0]) - 1 {
	case api.Null:
		return api.Value{}, 1
	case api.Int:
		return firstNumber(s)
	case api.Text:
		return firstText(s)
	}
	return api.Value{}, 0
}

func firstNumber(s string) (api.Value, int) {
	if len(s) < numberSize {
		return api.Value{}, 0
	}
	n := uint32(s[1])<<24 | uint32(s[2])<<16 | uint32(s[3])<<8 | uint32(s[4])
	return api.Value{Kind: api.Int, N: int(n) - zeroNumber}, numberSize
}

func firstText(s string) (api.Value, int) {
	end := strings.IndexByte(s, textEnd)
	if end < 0 {
		return api.Value{}, 0
	}
	return api.Value{Kind: api.Text, S: s[1:end]}, end + 1
}
