package plan

import (
	"fmt"
	"reflect"
	"slices"
	"testing"

	"askance/api"
	"askance/tree"
)

func num(n int) api.Value { return api.Value{Kind: api.Int, N: n} }

func str(s string) api.Value { return api.Value{Kind: api.Text, S: s} }

func row(l ...api.Value) []api.Value { return l }

func lit(v api.Value) api.Expr { return api.Expr{Op: api.Lit, V: v} }

func ref(place int) api.Expr { return api.Expr{Op: api.Ref, Name: "a", N: place} }

func of(op int, args ...api.Expr) api.Expr { return api.Expr{Op: op, L: args} }

// tableT has a name that begins another one's, and that an index has too.
func tableT() api.Table {
	return api.Table{Name: "t", Cols: []api.Col{{Name: "a", Type: api.Int, Must: true}, {Name: "b", Type: api.Text}, {Name: "c", Type: api.Int}}}
}

func tableTT() api.Table {
	return api.Table{Name: "tt", Cols: []api.Col{{Name: "a", Type: api.Int, Must: true}, {Name: "b", Type: api.Text}, {Name: "c", Type: api.Int}}}
}

func tableU() api.Table {
	return api.Table{Name: "u", Cols: []api.Col{{Name: "id", Type: api.Text, Must: true}, {Name: "n", Type: api.Int}}}
}

// catalog has the three tables, and those indexes of all that there could be.
func catalog(indexes ...string) api.Catalog {
	c := api.Catalog{Tables: []api.Table{tableT(), tableTT(), tableU()}}
	for _, x := range []api.Index{
		{Name: "i", Table: "t", Col: "b"}, {Name: "ii", Table: "t", Col: "c"}, {Name: "j", Table: "t", Col: "a"},
		{Name: "k", Table: "tt", Col: "b"}, {Name: "t", Table: "u", Col: "n"}, {Name: "u", Table: "u", Col: "id"},
	} {
		if slices.Contains(indexes, x.Name) {
			c.Indexes = append(c.Indexes, x)
		}
	}
	return c
}

func catalogs() []api.Catalog {
	return []api.Catalog{
		catalog(), catalog("i"), catalog("ii"), catalog("j"), catalog("u"), catalog("t", "u"), catalog("i", "ii"),
		catalog("i", "ii", "k", "t"), catalog("i", "ii", "j", "t"), catalog("ii", "j", "t", "u"),
	}
}

func rowsT() [][]api.Value {
	const most = api.MaxNumber
	return [][]api.Value{
		row(num(3), str("x"), num(3)), row(num(-most), str(""), num(most)), row(num(most), str("~~~~~~~~"), num(-most)),
		row(num(1), api.Value{}, api.Value{}), row(num(0), str("xx"), api.Value{}), row(num(2), api.Value{}, num(0)),
		row(num(-1), str("w"), num(2)), row(num(255), str("x"), num(256)), row(num(256), str("x "), num(-256)),
		row(num(4), str("y"), num(3)), row(num(5), str("X"), num(-1)),
	}
}

func rowsTT() [][]api.Value {
	return [][]api.Value{row(num(3), str("x"), num(3)), row(num(6), api.Value{}, num(2)), row(num(7), str("y"), api.Value{})}
}

func rowsU() [][]api.Value {
	return [][]api.Value{row(str("x"), num(3)), row(str(""), api.Value{}), row(str("xx"), num(0)), row(str("y"), num(3)), row(str("~~~~~~~~"), num(-api.MaxNumber))}
}

// filled is a tree with all rows of all tables.
func filled(c api.Catalog) api.Tree {
	var tr api.Tree
	for _, r := range rowsT() {
		tr = Put(tr, c, tableT(), r)
	}
	for _, r := range rowsU() {
		tr = Put(tr, c, tableU(), r)
	}
	for _, r := range rowsTT() {
		tr = Put(tr, c, tableTT(), r)
	}
	return tr
}

// coded is good values as a key, worked out another way.
func coded(l ...api.Value) string {
	s := ""
	for _, v := range l {
		s += string([]byte{byte(v.Kind) + 1})
		switch v.Kind {
		case api.Int:
			n := v.N + 1073741824
			s += string([]byte{byte(n / 16777216), byte(n / 65536 % 256), byte(n / 256 % 256), byte(n % 256)})
		case api.Text:
			s += v.S + "\x00"
		}
	}
	return s
}

// kept is all that a tree must have of a row, worked out another way.
func kept(c api.Catalog, t api.Table, r []api.Value) map[string]string {
	l := map[string]string{"r" + t.Name + "\x00" + coded(r[0]): coded(r...)}
	for _, x := range c.Indexes {
		for i, col := range t.Cols {
			if x.Table == t.Name && x.Col == col.Name {
				l["x"+x.Name+"\x00"+coded(r[i], r[0])] = ""
			}
		}
	}
	return l
}

// content is a good tree as a map.
func content(t *testing.T, tr api.Tree) map[string]string {
	t.Helper()
	if !tree.Good(tr) {
		t.Fatalf("not good: %q", tr)
	}
	l := map[string]string{}
	for _, p := range tr.Pages {
		for i, key := range p.Keys {
			l[key] = p.Vals[i]
		}
	}
	return l
}

// inOrder is rows by their first values.
func inOrder(rows [][]api.Value) [][]api.Value {
	l := slices.Clone(rows)
	slices.SortFunc(l, func(a, b []api.Value) int {
		if coded(a[0]) < coded(b[0]) {
			return -1
		}
		return 1
	})
	return l
}

// sameRows is whether two lists of rows are alike; those without elements are.
func sameRows(a, b [][]api.Value) bool {
	return len(a) == 0 && len(b) == 0 || reflect.DeepEqual(a, b)
}

func leads(t *testing.T, tr api.Tree, x api.Table, w api.Way, want [][]api.Value) {
	t.Helper()
	if got := Rows(tr, x, w); !sameRows(got, want) {
		t.Errorf("%s: %q: %v; wanted %v", x.Name, w, got, want)
	}
}

func told(e api.Expr) string {
	switch e.Op {
	case api.Lit:
		return fmt.Sprintf("%v", e.V)
	case api.Ref:
		return fmt.Sprintf("#%d", e.N)
	}
	s := fmt.Sprintf("(%d", e.Op)
	for _, a := range e.L {
		s += " " + told(a)
	}
	return s + ")"
}

// badValues are no values of rows.
func badValues() []api.Value {
	return []api.Value{
		{N: 1}, {S: "x"}, num(api.MaxNumber + 1), num(-api.MaxNumber - 1), num(-1 << 63), num(1<<63 - 1), {Kind: api.Int, S: "x"},
		str("123456789"), str("it's"), str("\x00"), str("\xff"), {Kind: api.Text, N: 1}, {Kind: api.Truth}, {Kind: api.Truth, N: 1}, {Kind: -1}, {Kind: 4}, {Kind: 255},
	}
}
