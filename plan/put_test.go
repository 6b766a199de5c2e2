package plan

import (
	"maps"
	"reflect"
	"testing"

	"askance/api"
	"askance/tree"
)

// has wants a tree to have just that.
func has(t *testing.T, tr api.Tree, want map[string]string) {
	t.Helper()
	if got := content(t, tr); !maps.Equal(got, want) {
		t.Fatalf("%q; wanted %q", got, want)
	}
}

// Row by row the tree has just what it must of all rows; then, row by row in
// another order, of what is left.
func TestPutAndDrop(t *testing.T) {
	type rowOf struct {
		t api.Table
		r []api.Value
	}
	var all []rowOf
	for i := range rowsT() {
		all = append(all, rowOf{tableT(), rowsT()[i]})
		if i < len(rowsU()) {
			all = append(all, rowOf{tableU(), rowsU()[i]})
		}
		if i < len(rowsTT()) {
			all = append(all, rowOf{tableTT(), rowsTT()[i]})
		}
	}
	for _, c := range catalogs() {
		var tr api.Tree
		want := map[string]string{}
		for _, one := range all {
			tr = Put(tr, c, one.t, one.r)
			maps.Copy(want, kept(c, one.t, one.r))
			has(t, tr, want)
			has(t, Put(tr, c, one.t, one.r), want)
		}
		for i := range all {
			one := all[(i*7+3)%len(all)]
			tr = Drop(tr, c, one.t, one.r)
			for key := range kept(c, one.t, one.r) {
				delete(want, key)
			}
			has(t, tr, want)
			has(t, Drop(tr, c, one.t, one.r), want)
		}
		if tree.Size(tr) != 0 {
			t.Fatalf("%d keys are left", tree.Size(tr))
		}
	}
}

func TestSeveralIndexesOfOneColumn(t *testing.T) {
	c := api.Catalog{Tables: []api.Table{tableU()}, Indexes: []api.Index{{Name: "i", Table: "u", Col: "n"}, {Name: "j", Table: "u", Col: "n"}}}
	tr := Put(api.Tree{}, c, tableU(), row(str("x"), num(3)))
	has(t, tr, map[string]string{
		"ru\x00\x03x\x00": "\x03x\x00\x02\x40\x00\x00\x03", "xi\x00\x02\x40\x00\x00\x03\x03x\x00": "", "xj\x00\x02\x40\x00\x00\x03\x03x\x00": "",
	})
	has(t, Drop(tr, c, tableU(), row(str("x"), num(3))), map[string]string{})
}

// What indexes say of tables and columns that there are not is passed over.
func TestStrayIndexes(t *testing.T) {
	c := api.Catalog{Indexes: []api.Index{{Name: "i", Table: "t", Col: "zz"}, {Name: "j", Table: "", Col: "a"}, {Name: "k", Table: "T", Col: "a"}, {}}}
	r := rowsT()[0]
	tr := Put(api.Tree{}, c, tableT(), r)
	has(t, tr, kept(api.Catalog{}, tableT(), r))
	has(t, Drop(tr, c, tableT(), r), map[string]string{})
}

// A row that has not as many values as the table columns changes nothing.
func TestNotAsManyValues(t *testing.T) {
	c := catalog("i", "ii", "j", "t")
	full := filled(c)
	one := rowsT()[0]
	for _, r := range [][]api.Value{nil, {}, one[:1], one[:2], append(row(one...), num(1)), row(one[0], one[1], one[2], one[0], one[1])} {
		for _, tr := range []api.Tree{{}, full} {
			if got := Put(tr, c, tableT(), r); !reflect.DeepEqual(got, tr) {
				t.Errorf("put %v: %q", r, got)
			}
			if got := Drop(tr, c, tableT(), r); !reflect.DeepEqual(got, tr) {
				t.Errorf("drop %v: %q", r, got)
			}
		}
	}
}

// A table without columns has no rows: there is no first value.
func TestNoColumns(t *testing.T) {
	c, x := catalog("i"), api.Table{Name: "t"}
	for _, tr := range []api.Tree{{}, filled(c)} {
		for _, r := range [][]api.Value{nil, {}, row(num(3))} {
			if !reflect.DeepEqual(Put(tr, c, x, r), tr) || !reflect.DeepEqual(Drop(tr, c, x, r), tr) {
				t.Errorf("%v", r)
			}
		}
		for _, w := range []api.Way{All("t"), {Lo: "", Hi: "z"}, {Index: "i", Lo: "", Hi: "z"}, Choose(c, x, 0, of(api.Is, ref(0)))} {
			leads(t, tr, x, w, nil)
		}
	}
}

func TestBadTrees(t *testing.T) {
	c, r := catalog("i"), rowsT()[0]
	for _, tr := range []api.Tree{
		{Pages: []api.Page{{}}},
		{Pages: []api.Page{{Keys: []string{"rt\x00\x02\x40\x00\x00\x03"}}}},
		{Pages: []api.Page{{Keys: []string{"b", "a"}, Vals: []string{"", ""}}}},
	} {
		if !reflect.DeepEqual(Put(tr, c, tableT(), r), tr) || !reflect.DeepEqual(Drop(tr, c, tableT(), r), tr) {
			t.Errorf("%q", tr)
		}
		leads(t, tr, tableT(), All("t"), nil)
		leads(t, tr, tableT(), api.Way{Index: "i", Lo: "", Hi: "z"}, nil)
	}
}

// Where a value is not good, a key that there is not counts as the empty text,
// and nothing of that is taken for a row.
func TestBadRows(t *testing.T) {
	c := catalog("i")
	for _, v := range badValues() {
		tr := Put(api.Tree{}, c, tableT(), row(num(3), v, num(4)))
		has(t, tr, map[string]string{"rt\x00\x02\x40\x00\x00\x03": "", "xi\x00": ""})
		leads(t, tr, tableT(), All("t"), nil)
		leads(t, tr, tableT(), api.Way{Index: "i", Lo: "xi\x00", Hi: "xi\x00\xff"}, nil)
		has(t, Drop(tr, c, tableT(), row(num(3), v, num(4))), map[string]string{})
		tr = Put(api.Tree{}, c, tableT(), row(v, num(3), num(4)))
		has(t, tr, map[string]string{"rt\x00": "", "xi\x00": ""})
		leads(t, tr, tableT(), All("t"), nil)
	}
}

// roomy is a list with spare room, in which something stands.
func roomy[T any](l []T, spare T) []T {
	return append(append([]T{}, l...), spare, spare)[:len(l)]
}

type handed struct {
	tr  api.Tree
	c   api.Catalog
	t   api.Table
	row []api.Value
	e   api.Expr
}

func handedIn() handed {
	h := handed{tr: filled(catalog("i", "ii")), c: catalog("i", "ii"), t: tableT(), row: roomy(rowsT()[1], num(77))}
	for i, p := range h.tr.Pages {
		h.tr.Pages[i] = api.Page{Keys: roomy(p.Keys, "spare"), Vals: roomy(p.Vals, "spare")}
	}
	h.tr.Pages = roomy(h.tr.Pages, api.Page{Keys: []string{"spare"}, Vals: []string{"spare"}})
	h.c.Indexes = roomy(h.c.Indexes, api.Index{Name: "spare", Table: "t", Col: "c"})
	h.t.Cols = roomy(h.t.Cols, api.Col{Name: "spare"})
	args := roomy([]api.Expr{of(api.Eq, ref(1), lit(str("x"))), of(api.Lt, ref(2), lit(num(5)))}, of(api.Is, ref(0)))
	h.e = api.Expr{Op: api.And, L: args}
	return h
}

// whole is what was handed in with its spare room.
func (h handed) whole() []any {
	l := []any{h.tr.Pages[:cap(h.tr.Pages)], h.c.Indexes[:cap(h.c.Indexes)], h.c.Tables, h.t.Cols[:cap(h.t.Cols)], h.row[:cap(h.row)], h.e.L[:cap(h.e.L)]}
	for _, p := range h.tr.Pages {
		l = append(l, p.Keys[:cap(p.Keys)], p.Vals[:cap(p.Vals)])
	}
	return l
}

func TestHandedInStays(t *testing.T) {
	h, was := handedIn(), handedIn()
	Put(h.tr, h.c, h.t, h.row)
	Put(h.tr, h.c, h.t, row(num(9), str("new"), num(9)))
	Drop(h.tr, h.c, h.t, h.row)
	for _, w := range []api.Way{All("t"), Choose(h.c, h.t, 0, h.e), {Index: "i", Lo: "xi\x00", Hi: "xi\x01"}, {Lo: "", Hi: "z"}} {
		for _, r := range Rows(h.tr, h.t, w) {
			clear(r)
		}
	}
	if !reflect.DeepEqual(h.whole(), was.whole()) {
		t.Errorf("%+v", h.whole())
	}
}
