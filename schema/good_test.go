package schema

import (
	"strings"
	"testing"

	"askance/api"
)

func TestFindTable(t *testing.T) {
	c := api.Catalog{Tables: []api.Table{table("t", must("a")), table("u", must("b")), table("t", must("c")), table("", must("d"))}}
	for name, col := range map[string]string{"t": "a", "u": "b", "": "d"} {
		if got, there := FindTable(c, name); !there || got.Name != name || got.Cols[0].Name != col {
			t.Errorf("%q: %+v, %v", name, got, there)
		}
	}
	for _, name := range []string{"v", "T", "tt", "t ", " "} {
		if got, there := FindTable(c, name); there || !same(got, api.Table{}) {
			t.Errorf("%q: %+v, %v", name, got, there)
		}
	}
	if got, there := FindTable(api.Catalog{}, ""); there || !same(got, api.Table{}) {
		t.Errorf("%+v, %v", got, there)
	}
}

func TestFindCol(t *testing.T) {
	one := table("t", must("a"), may("b"), may("a"), may(""))
	for name, want := range map[string]int{"a": 0, "b": 1, "": 3, "c": -1, "t": -1, "A": -1, "aa": -1} {
		if got := FindCol(one, name); got != want {
			t.Errorf("%q: %d; wanted %d", name, got, want)
		}
	}
	if got := FindCol(api.Table{}, ""); got != -1 {
		t.Errorf("%d", got)
	}
}

func TestGoodTable(t *testing.T) {
	for _, one := range []api.Table{
		table("t", must("a")),
		table("t", must("t")),
		table("abcdefgh", must("abcdefgh")),
		table("t", must("a"), may("b")),
		table("t", must("a"), must("b"), may("c"), may("d")),
		table("t", must("b"), may("a")),
		table("t", api.Col{Name: "a", Type: api.Text, Must: true}, api.Col{Name: "b", Type: api.Int}),
	} {
		if !GoodTable(one) {
			t.Errorf("%+v: not good", one)
		}
	}
	for _, one := range []api.Table{
		{},
		table("t"),
		{Name: "t", Cols: []api.Col{}},
		table("", must("a")),
		table("from", must("a")),
		table("abcdefghi", must("a")),
		table("T", must("a")),
		table("t1", must("a")),
		table("t", must("")),
		table("t", must("int")),
		table("t", must("abcdefghi")),
		table("t", must("a.b")),
		table("t", may("a")),
		table("t", may("a"), must("b")),
		table("t", must("a"), may("a")),
		table("t", must("a"), may("b"), may("b")),
		table("t", must("a"), may("b"), may("c"), may("a")),
		table("t", must("a"), may("b"), may("")),
		table("t", must("a"), may("b"), may("c"), may("d"), may("e")),
		table("t", api.Col{Name: "a", Must: true}),
		table("t", api.Col{Name: "a", Type: api.Truth, Must: true}),
		table("t", api.Col{Name: "a", Type: -1, Must: true}),
		table("t", must("a"), api.Col{Name: "b", Type: api.Null}),
		table("t", must("a"), api.Col{Name: "b", Type: api.Truth}),
		table("t", must("a"), api.Col{Name: "b", Type: 4}),
		{Name: "t", Cols: make([]api.Col, 1<<20)},
		table(strings.Repeat("t", 1<<20), must("a")),
	} {
		if GoodTable(one) {
			t.Errorf("%s of %d: good", one.Name[:min(9, len(one.Name))], len(one.Cols))
		}
	}
}

func tables(names ...string) []api.Table {
	var l []api.Table
	for _, name := range names {
		l = append(l, table(name, must("a"), may("b")))
	}
	return l
}

func indexes(names ...string) []api.Index {
	var l []api.Index
	for _, name := range names {
		l = append(l, api.Index{Name: name, Table: "t", Col: "b"})
	}
	return l
}

func TestGoodCatalog(t *testing.T) {
	for _, c := range []api.Catalog{
		{},
		{Tables: []api.Table{}, Indexes: []api.Index{}},
		two(),
		{Tables: tables("t")},
		{Tables: tables("a", "b", "c")},
		{Tables: tables("a", "aa", "b")},
		{Tables: tables("t"), Indexes: indexes("t")},
		{Tables: tables("t"), Indexes: indexes("a", "b", "c", "d")},
		{Tables: tables("s", "t", "u"), Indexes: []api.Index{{Name: "a", Table: "u", Col: "b"}, {Name: "b", Table: "s", Col: "a"}}},
	} {
		if !Good(c) {
			t.Errorf("%+v: not good", c)
		}
	}
	for _, c := range []api.Catalog{
		{Tables: tables("b", "a")},
		{Tables: tables("a", "a")},
		{Tables: tables("a", "b", "b")},
		{Tables: tables("a", "c", "b")},
		{Tables: tables("a", "b", "c", "d")},
		{Tables: tables("aa", "a")},
		{Tables: tables("")},
		{Tables: tables("a", "from")},
		{Tables: []api.Table{{}}},
		{Tables: []api.Table{table("a", must("a")), table("b", may("a"))}},
		{Indexes: indexes("a")},
		{Tables: tables("a"), Indexes: indexes("a")},
		{Tables: tables("t"), Indexes: indexes("b", "a")},
		{Tables: tables("t"), Indexes: indexes("a", "a")},
		{Tables: tables("t"), Indexes: indexes("a", "c", "b")},
		{Tables: tables("t"), Indexes: indexes("a", "b", "c", "d", "e")},
		{Tables: tables("t"), Indexes: indexes("")},
		{Tables: tables("t"), Indexes: indexes("a", "index")},
		{Tables: tables("t"), Indexes: indexes("abcdefghi")},
		{Tables: tables("t"), Indexes: []api.Index{{}}},
		{Tables: tables("t"), Indexes: []api.Index{{Name: "i", Table: "u", Col: "b"}}},
		{Tables: tables("t"), Indexes: []api.Index{{Name: "i", Table: "t", Col: "c"}}},
		{Tables: tables("t"), Indexes: []api.Index{{Name: "i", Table: "t", Col: ""}}},
		{Tables: tables("t"), Indexes: []api.Index{{Name: "i", Table: "", Col: "b"}}},
		{Tables: tables("t"), Indexes: []api.Index{{Name: "i", Table: "t", Col: "b"}, {Name: "j", Table: "t", Col: "c"}}},
		{Tables: []api.Table{table("s", must("c")), table("t", must("a"))}, Indexes: []api.Index{{Name: "i", Table: "t", Col: "c"}}},
	} {
		if Good(c) {
			t.Errorf("%+v: good", c)
		}
	}
}
