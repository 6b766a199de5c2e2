package tree

import (
	"maps"
	"slices"
	"strconv"
	"testing"

	"askance/api"
)

// alphabet is keys that rise: the empty one, beginnings of others, bytes of all
// sizes.
func alphabet() []string {
	return []string{"", "\x00", "a", "a\x00", "ab", "b", "\x7f\xff", "\xff"}
}

// paged are all good trees of some keys, page by page, and behind some pages.
func paged(ahead []api.Page, keys []string) []api.Tree {
	if len(keys) == 0 {
		return []api.Tree{{Pages: slices.Clone(ahead)}}
	}
	var l []api.Tree
	for n := 1; n <= api.MaxPage && n <= len(keys); n++ {
		l = append(l, paged(append(slices.Clip(ahead), page(keys[:n]...)), keys[n:])...)
	}
	return l
}

// everyTree are all good trees of keys of the alphabet.
func everyTree() []api.Tree {
	var l []api.Tree
	keys := alphabet()
	for set := range 1 << len(keys) {
		var some []string
		for i, k := range keys {
			if set>>i&1 == 1 {
				some = append(some, k)
			}
		}
		l = append(l, paged(nil, some)...)
	}
	return l
}

// content is what stands in a tree, by looking at all of it.
func content(x api.Tree) map[string]string {
	m := map[string]string{}
	for _, p := range x.Pages {
		for i, k := range p.Keys {
			m[k] = p.Vals[i]
		}
	}
	return m
}

// holds is whether a tree is good and just that stands in it.
func holds(x api.Tree, want map[string]string) bool {
	return Good(x) && maps.Equal(content(x), want)
}

func TestGet(t *testing.T) {
	for _, x := range everyTree() {
		have := content(x)
		for _, k := range append(alphabet(), "c", "\xff\xff", "a\x00\x00") {
			want, there := have[k]
			if got, ok := Get(x, k); got != want || ok != there {
				t.Fatalf("%#v: %q: %q, %v", x, k, got, ok)
			}
		}
	}
}

func TestGetOfAnEmptyText(t *testing.T) {
	x := pages(api.Page{Keys: []string{"a", "b"}, Vals: []string{"", "x"}})
	if v, ok := Get(x, "a"); v != "" || !ok {
		t.Errorf("%q, %v", v, ok)
	}
}

func TestPut(t *testing.T) {
	for _, x := range everyTree() {
		was := deep(x)
		for _, k := range append(alphabet(), "c", "\xff\xff") {
			for _, v := range []string{"new", "", "text of " + k} {
				want := content(x)
				want[k] = v
				if got := Put(x, k, v); !holds(got, want) || !same(x, was) {
					t.Fatalf("%#v: %q, %q: %#v", was, k, v, got)
				}
			}
		}
	}
}

func TestDrop(t *testing.T) {
	for _, x := range everyTree() {
		was := deep(x)
		for _, k := range append(alphabet(), "c", "\xff\xff") {
			want := content(x)
			delete(want, k)
			if got := Drop(x, k); !holds(got, want) || !same(x, was) {
				t.Fatalf("%#v: %q: %#v", was, k, got)
			}
		}
	}
}

func TestDropOfAllKeys(t *testing.T) {
	x := pages(page("a"), page("b", "c"))
	for _, k := range []string{"c", "a", "b"} {
		x = Drop(x, k)
	}
	if len(x.Pages) != 0 || !Good(x) {
		t.Errorf("%#v", x)
	}
}

// TestDropJoins: pages that are small don't stay beside each other.
func TestDropJoins(t *testing.T) {
	for _, c := range []struct {
		x    api.Tree
		key  string
		want int
	}{
		{pages(page("a", "b"), page("c", "d", "e")), "e", 1},
		{pages(page("a", "b", "c"), page("d", "e")), "a", 1},
		{pages(page("a"), page("b", "c"), page("d", "e")), "b", 1},
		{pages(page("a", "b", "c"), page("d", "e"), page("f", "g", "h")), "d", 2},
		{pages(page("a", "b", "c", "d"), page("e", "f"), page("g", "h", "i", "j")), "e", 3},
	} {
		if got := Drop(c.x, c.key); len(got.Pages) != c.want {
			t.Errorf("%#v: %q: %#v", c.x, c.key, got)
		}
	}
}

func TestRange(t *testing.T) {
	ends := append(alphabet(), "\x00\x00", "aa", "c", "\xff\xff")
	for _, x := range everyTree() {
		have := content(x)
		rising := slices.Sorted(maps.Keys(have))
		for _, lo := range ends {
			for _, hi := range ends {
				var keys, vals []string
				for _, k := range rising {
					if lo <= k && k < hi {
						keys = append(keys, k)
						vals = append(vals, have[k])
					}
				}
				gotKeys, gotVals := Range(x, lo, hi)
				if !slices.Equal(gotKeys, keys) || !slices.Equal(gotVals, vals) {
					t.Fatalf("%#v: %q to %q: %q, %q", x, lo, hi, gotKeys, gotVals)
				}
			}
		}
	}
}

func TestSize(t *testing.T) {
	for _, x := range everyTree() {
		if got := Size(x); got != len(content(x)) {
			t.Fatalf("%#v: %d", x, got)
		}
	}
}

// TestLong puts and drops many keys, in orders in which pages become full at
// the front, at the end and everywhere.
func TestLong(t *testing.T) {
	const count = 300
	for _, step := range []int{1, count - 1, 7, 113} {
		var x api.Tree
		want := map[string]string{}
		key := func(i int) string { return strconv.Itoa(1000 + i*step%count) }
		for i := range count {
			x = Put(x, key(i), strconv.Itoa(i))
			want[key(i)] = strconv.Itoa(i)
			if !holds(x, want) || Size(x) != len(want) {
				t.Fatalf("step %d: %d: %#v", step, i, x)
			}
		}
		for i := range count {
			x = Drop(x, key(i*7))
			delete(want, key(i*7))
			if !holds(x, want) || Size(x) != len(want) {
				t.Fatalf("step %d: %d dropped: %#v", step, i, x)
			}
		}
	}
}
