package tree

import (
	"slices"
	"testing"

	"askance/api"
)

// page has a text of its own for each key.
func page(keys ...string) api.Page {
	p := api.Page{Keys: keys}
	for _, k := range keys {
		p.Vals = append(p.Vals, "text of "+k)
	}
	return p
}

func pages(l ...api.Page) api.Tree {
	return api.Tree{Pages: l}
}

// notGood are trees that aren't, for one reason each.
func notGood() []api.Tree {
	full := page("m", "n", "o", "p")
	return []api.Tree{
		pages(api.Page{}),
		pages(api.Page{Keys: []string{}, Vals: []string{}}),
		pages(page("a"), api.Page{}),
		pages(api.Page{}, page("a")),
		pages(page("a"), api.Page{}, page("b")),
		pages(page("a", "b", "c", "d", "e")),
		pages(page("a"), page("b", "c", "d", "e", "f")),
		pages(page("a", "b", "c", "d", "e", "f", "g"), full),
		pages(api.Page{Keys: []string{"a"}}),
		pages(api.Page{Keys: []string{"a", "b"}, Vals: []string{"x"}}),
		pages(api.Page{Keys: []string{"a"}, Vals: []string{"x", "y"}}),
		pages(api.Page{Vals: []string{"x"}}),
		pages(full, api.Page{Keys: []string{"q", "r"}, Vals: []string{"x", "y", "z"}}),
		pages(page("b", "a")),
		pages(page("a", "a")),
		pages(page("", "")),
		pages(page("a", "c", "d", "b")),
		pages(page("a", "b", "c", "c")),
		pages(page("b"), page("a")),
		pages(page("a"), page("a")),
		pages(page("a", "b"), page("b", "c")),
		pages(page("a", "d"), page("b", "e")),
		pages(page("a", "d"), page("e"), page("d", "f")),
		pages(page("a"), page("b"), page("d", "c")),
		pages(page("ab"), page("a")),
		pages(page("\x80"), page("\x7f")),
	}
}

func TestGood(t *testing.T) {
	for _, x := range []api.Tree{
		{},
		{Pages: []api.Page{}},
		pages(page("")),
		pages(page("a")),
		pages(page("a", "b", "c", "d")),
		pages(page("a"), page("b")),
		pages(page("", "\x00", "a", "a\x00"), page("aa"), page("b", "\x7f", "\x80", "\xff")),
		pages(api.Page{Keys: []string{"a", "b"}, Vals: []string{"x", "x"}}),
		pages(api.Page{Keys: []string{"a", "b"}, Vals: []string{"", ""}}),
	} {
		if !Good(x) {
			t.Errorf("%#v is not good", x)
		}
	}
	for _, x := range notGood() {
		if Good(x) {
			t.Errorf("%#v is good", x)
		}
	}
}

func TestOfWhatIsNotGood(t *testing.T) {
	for _, x := range notGood() {
		was := deep(x)
		for _, k := range []string{"", "a", "b", "c", "d", "m", "n", "q", "z", "ab", "\x7f", "\x80"} {
			if v, ok := Get(x, k); v != "" || ok {
				t.Errorf("%#v: Get %q: %q, %v", x, k, v, ok)
			}
			if got := Put(x, k, "new"); !same(got, was) {
				t.Errorf("%#v: Put %q: %#v", was, k, got)
			}
			if got := Drop(x, k); !same(got, was) {
				t.Errorf("%#v: Drop %q: %#v", was, k, got)
			}
			if keys, vals := Range(x, k, "\xff\xff"); len(keys) != 0 || len(vals) != 0 {
				t.Errorf("%#v: Range from %q: %q, %q", x, k, keys, vals)
			}
		}
	}
}

// deep is a tree that shares no list with the one that it is a copy of.
func deep(x api.Tree) api.Tree {
	var c api.Tree
	for _, p := range x.Pages {
		c.Pages = append(c.Pages, api.Page{Keys: slices.Clone(p.Keys), Vals: slices.Clone(p.Vals)})
	}
	return c
}

// same is whether two trees are, page by page.
func same(a, b api.Tree) bool {
	return slices.EqualFunc(a.Pages, b.Pages, func(p, q api.Page) bool {
		return slices.Equal(p.Keys, q.Keys) && slices.Equal(p.Vals, q.Vals)
	})
}
