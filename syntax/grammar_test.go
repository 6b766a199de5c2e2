package syntax

import (
	"fmt"
	"strings"
	"testing"

	"askance/api"
)

// phrase is some words, what they mean, and how many brackets and nots are
// around what is deepest in them.
type phrase struct {
	words string
	e     api.Expr
	depth int
}

// grammar has the phrases of each sort, by how many words they have, as
// chapter 3 puts them together: what the reader finds in a text is held against
// what can be made at all.
type grammar struct{ atoms, sums, tests, ands, ors [][]phrase }

func joined(op int, sign string, a, b phrase) phrase {
	return phrase{a.words + " " + sign + " " + b.words, of(op, a.e, b.e), max(a.depth, b.depth)}
}

// pairs are the phrases of n words with a sign between one of the left ones and
// one of the right ones.
func pairs(op int, sign string, left, right [][]phrase, n int) []phrase {
	var l []phrase
	for i := 1; i+1 < n; i++ {
		for _, a := range left[i] {
			for _, b := range right[n-1-i] {
				l = append(l, joined(op, sign, a, b))
			}
		}
	}
	return l
}

func (g *grammar) addAtoms(n int) {
	var l []phrase
	switch n {
	case 1:
		l = []phrase{{"null", nothing(), 0}, {"1", number(1), 0}, {"'x'", text("x"), 0}, {"a", column("a"), 0}}
	case 2:
		l = []phrase{{"- 1", number(-1), 0}}
	case 3:
		l = []phrase{{"a . a", columnOf("a", "a"), 0}}
	}
	if n > 2 {
		for _, p := range g.ors[n-2] {
			l = append(l, phrase{"( " + p.words + " )", p.e, p.depth + 1})
		}
	}
	g.atoms = append(g.atoms, l)
}

func (g *grammar) addTests(n int) {
	l := append([]phrase{}, g.sums[n]...)
	for _, p := range g.tests[n-1] {
		l = append(l, phrase{"not " + p.words, of(api.Not, p.e), p.depth + 1})
	}
	if n > 2 {
		for _, p := range g.sums[n-2] {
			l = append(l, phrase{p.words + " is null", of(api.Is, p.e), p.depth})
		}
	}
	l = append(l, pairs(api.Eq, "=", g.sums, g.sums, n)...)
	g.tests = append(g.tests, append(l, pairs(api.Lt, "<", g.sums, g.sums, n)...))
}

func grammarUpTo(longest int) *grammar {
	none := [][]phrase{nil}
	g := &grammar{none, none, none, none, none}
	for n := 1; n <= longest; n++ {
		g.addAtoms(n)
		sums := append(append([]phrase{}, g.atoms[n]...), pairs(api.Plus, "+", g.sums, g.atoms, n)...)
		g.sums = append(g.sums, append(sums, pairs(api.Minus, "-", g.sums, g.atoms, n)...))
		g.addTests(n)
		g.ands = append(g.ands, append(append([]phrase{}, g.tests[n]...), pairs(api.And, "and", g.ands, g.tests, n)...))
		g.ors = append(g.ors, append(append([]phrase{}, g.ands[n]...), pairs(api.Or, "or", g.ors, g.ands, n)...))
	}
	return g
}

// allOf calls f with all texts of up to longest of these words.
func allOf(words []string, longest int, f func(text string)) {
	var more func(text string, left int)
	more = func(text string, left int) {
		f(text)
		if left == 0 {
			return
		}
		for _, w := range words {
			more(strings.TrimPrefix(text+" "+w, " "), left-1)
		}
	}
	more("", longest)
}

func checkAllTexts(t *testing.T, words string, longest int) {
	g := grammarUpTo(longest)
	good := map[string]string{}
	for _, l := range g.ors {
		for _, p := range l {
			if _, twice := good[p.words]; twice {
				t.Fatalf("%q can be read in two ways", p.words)
			}
			if p.depth < api.MaxDepth {
				good[p.words] = fmt.Sprint(p.e)
			} else {
				good[p.words] = "too deep"
			}
		}
	}
	found := 0
	allOf(strings.Fields(words), longest, func(text string) {
		l, e := Script("delete from t where " + text + ";")
		want := good[text]
		if want == "" || want == "too deep" {
			if e != api.ErrForm || len(l) != 0 {
				t.Errorf("%q: %+v, %d", text, l, e)
			}
			return
		}
		found++
		if e != api.OK || len(l) != 1 || fmt.Sprint(l[0].Where) != want {
			t.Errorf("%q: %+v, %d, not %s", text, l, e, want)
		}
	})
	if found < 100 {
		t.Errorf("only %d expressions", found)
	}
}

func TestAllExpressionsOfFewWords(t *testing.T) {
	checkAllTexts(t, "null 1 - 'x' a . ( ) + not is = < and or", 4)
}

func TestAllExpressionsOfOperations(t *testing.T) {
	checkAllTexts(t, "a - 1 not = and or", 6)
}

func TestAllExpressionsOfBrackets(t *testing.T) {
	checkAllTexts(t, "a ( ) not is null", 7)
}
