package tree

import (
	"slices"
	"testing"

	"askance/api"
)

const spare = "spare room"

// roomy is a list with spare room, in which something stands.
func roomy(l []string) []string {
	return append(slices.Clone(l), spare, spare, spare, spare)[:len(l)]
}

// roomyTree is a tree whose lists all have spare room.
func roomyTree(x api.Tree) api.Tree {
	var l []api.Page
	for _, p := range x.Pages {
		l = append(l, api.Page{Keys: roomy(p.Keys), Vals: roomy(p.Vals)})
	}
	n := len(l)
	return api.Tree{Pages: append(l, page(spare), page(spare), page(spare))[:n]}
}

// untouched is whether a roomy tree, its spare room too, is as it was.
func untouched(x, was api.Tree) bool {
	for _, p := range x.Pages[len(x.Pages) : len(x.Pages)+3] {
		if !same(pages(p), pages(page(spare))) {
			return false
		}
	}
	for _, p := range x.Pages {
		for _, l := range [][]string{p.Keys, p.Vals} {
			if !slices.Equal(l[len(l):len(l)+4], []string{spare, spare, spare, spare}) {
				return false
			}
		}
	}
	return same(x, was)
}

// TestHandedIn: no call changes a list that is handed in, or its spare room.
func TestHandedIn(t *testing.T) {
	trees := append(notGood(),
		pages(),
		pages(page("b")),
		pages(page("b", "d", "f", "h")),
		pages(page("b", "d"), page("f", "h")),
		pages(page("b", "d", "f", "h"), page("j"), page("l", "n", "p", "r")),
	)
	for _, was := range trees {
		x := roomyTree(was)
		for _, k := range []string{"", "a", "b", "c", "d", "e", "f", "g", "h", "i", "j", "k", "l", "m", "z"} {
			Good(x)
			Get(x, k)
			Put(x, k, "new")
			Drop(x, k)
			Range(x, "a", k)
			Range(x, k, "z")
			Size(x)
			if !untouched(x, was) {
				t.Fatalf("%#v: %q: %#v", was, k, x)
			}
		}
	}
}

// apart is whether the lists of a tree may grow without one of them changing
// another one.
func apart(x api.Tree) bool {
	was := deep(x)
	for _, p := range x.Pages {
		_ = append(p.Keys, spare)
		_ = append(p.Vals, spare)
	}
	return same(x, was)
}

func TestPagesAreApart(t *testing.T) {
	for _, x := range everyTree() {
		for _, k := range alphabet() {
			if got := Put(deep(x), k, "new"); !apart(got) {
				t.Fatalf("%#v: put %q: %#v", x, k, got)
			}
			if got := Drop(deep(x), k); !apart(got) {
				t.Fatalf("%#v: drop %q: %#v", x, k, got)
			}
		}
	}
}

// TestOlderTrees: each tree stays what it was, whatever was made of it since.
func TestOlderTrees(t *testing.T) {
	var x api.Tree
	var made, was []api.Tree
	for n := range 200 {
		k := string([]byte{byte('a' + n*n%7), byte('a' + n%5)})
		if n%3 == 2 {
			x = Drop(x, k)
		} else {
			x = Put(x, k, k[:n%3])
		}
		made = append(made, x)
		was = append(was, deep(x))
	}
	for i := range made {
		if !same(made[i], was[i]) {
			t.Errorf("%d: %#v, not %#v", i, made[i], was[i])
		}
	}
}

// TestRangeIsApart: what Range answers is not a piece of the tree.
func TestRangeIsApart(t *testing.T) {
	x := pages(page("a", "b", "c"), page("d"))
	was := deep(x)
	keys, vals := Range(x, "a", "c")
	clear(keys)
	clear(vals)
	if !same(x, was) {
		t.Errorf("%#v", x)
	}
}
