package value

import (
	"cmp"
	"math"
	"strings"
	"testing"

	"askance/api"
)

func number(n int) api.Value { return api.Value{Kind: api.Int, N: n} }

func text(s string) api.Value { return api.Value{Kind: api.Text, S: s} }

// rising are good values, each ahead of the next one.
func rising() []api.Value {
	return []api.Value{
		{},
		number(-api.MaxNumber), number(-api.MaxNumber + 1), number(-65537), number(-65536),
		number(-257), number(-256), number(-255), number(-1), number(0), number(1), number(2),
		number(10), number(127), number(128), number(255), number(256), number(65535), number(65536),
		number(api.MaxNumber - 1), number(api.MaxNumber),
		text(""), text(" "), text("  "), text("        "), text("!"), text("10"), text("2"), text("B"), text("a"),
		text("a "), text("aa"), text("ab"), text("abcdefgh"), text("b"), text("~"), text("~~~~~~~~"),
	}
}

// notGood are values that may not be in a row.
func notGood() []api.Value {
	return []api.Value{
		{N: 1}, {N: -1}, {S: "a"}, {S: " "}, {S: "\x00"},
		number(api.MaxNumber + 1), number(-api.MaxNumber - 1),
		number(1 << 30), number(-1 << 30), number(-1<<30 - 1), number(1 << 31), number(1 << 32), number(1<<32 + 5),
		number(math.MaxInt), number(math.MinInt),
		{Kind: api.Int, S: "a"}, {Kind: api.Int, N: 5, S: "5"}, {Kind: api.Int, S: "\x00"},
		{Kind: api.Text, N: 1}, {Kind: api.Text, N: -1, S: "a"},
		text("123456789"), text("        " + " "), text(strings.Repeat("a", 1000)),
		text("\x1f"), text("\x7f"), text("\x80"), text("\xff"), text("\x00"), text("\n"), text("'"), text("it's"),
		text("a\x00"), text("é"), text("1234567'"), text("'2345678"),
		{Kind: api.Truth}, {Kind: api.Truth, N: 1}, {Kind: 4}, {Kind: -1}, {Kind: -1, N: 1},
		{Kind: 255}, {Kind: 256}, {Kind: 257, N: 1}, {Kind: 258, S: "a"}, {Kind: math.MaxInt}, {Kind: math.MinInt},
	}
}

func TestGood(t *testing.T) {
	for _, v := range rising() {
		if !Good(v) {
			t.Errorf("%#v is good", v)
		}
	}
	for _, v := range notGood() {
		if Good(v) {
			t.Errorf("%#v is not good", v)
		}
	}
}

func TestGoodNumberBounds(t *testing.T) {
	for d := -2; d <= 2; d++ {
		if n := api.MaxNumber + d; Good(number(n)) != (d <= 0) {
			t.Errorf("%d", n)
		}
		if n := -api.MaxNumber + d; Good(number(n)) != (d >= 0) {
			t.Errorf("%d", n)
		}
	}
}

func TestGoodTextLength(t *testing.T) {
	for n := range 300 {
		if Good(text(strings.Repeat("x", n))) != (n <= api.MaxText) {
			t.Errorf("%d bytes", n)
		}
	}
}

func TestGoodTextBytes(t *testing.T) {
	for c := range 256 {
		want := c >= 32 && c <= 126 && c != 39
		one := string([]byte{byte(c)})
		for _, s := range []string{one, one + "bcdefgh", "abc" + one + "efgh", "abcdefg" + one} {
			if Good(text(s)) != want {
				t.Errorf("byte %d in %q", c, s)
			}
		}
	}
}

func TestCompare(t *testing.T) {
	l := rising()
	for i, a := range l {
		for k, b := range l {
			if got, want := Compare(a, b), cmp.Compare(i, k); got != want {
				t.Errorf("%#v, %#v: %d, not %d", a, b, got, want)
			}
		}
	}
}

func TestCompareTextsByBytes(t *testing.T) {
	for c := 32; c <= 126; c++ {
		for d := 32; d <= 126; d++ {
			a, b := text("m"+string(rune(c))), text("m"+string(rune(d)))
			if got, want := Compare(a, b), cmp.Compare(c, d); got != want {
				t.Errorf("%q, %q: %d, not %d", a.S, b.S, got, want)
			}
		}
	}
}

// What Compare says of values that are not good is left open, but it must end.
func TestCompareEndsOnAllValues(t *testing.T) {
	l := append(rising(), notGood()...)
	for _, a := range l {
		for _, b := range l {
			if got := Compare(a, b); got < -1 || got > 1 {
				t.Errorf("%#v, %#v: %d", a, b, got)
			}
		}
	}
}
