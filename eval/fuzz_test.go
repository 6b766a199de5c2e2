package eval

import (
	"testing"

	"askance/api"
	"askance/schema"
	"askance/syntax"
	"askance/value"
)

func catalog() api.Catalog {
	return api.Catalog{Tables: []api.Table{
		{Name: "t", Cols: []api.Col{{Name: "a", Type: api.Int, Must: true}, {Name: "b", Type: api.Text}, {Name: "c", Type: api.Int}}},
		{Name: "u", Cols: []api.Col{{Name: "id", Type: api.Text, Must: true}, {Name: "n", Type: api.Int}}},
	}}
}

func rows() [][]api.Value {
	return [][]api.Value{
		{num(5), str("x"), {}, str(""), num(5)},
		{num(-api.MaxNumber), {}, num(api.MaxNumber), str("~~~~~~~~"), {}},
		{num(0), str(""), num(0), str(" "), num(-1)},
	}
}

// bound is the expressions of texts behind select, bound to t and u.
func bound(source string) []api.Expr {
	l, _ := syntax.Script("select " + source + " from t, u;")
	var all []api.Expr
	for _, s := range l {
		if b, no := schema.Bind(catalog(), s); no == api.OK {
			all = append(append(all, b.Out...), b.Order...)
		}
	}
	return all
}

// A bound expression comes, of rows that may be, to a truth or to what may be
// in a row, and to the same by whichever way.
func checkBound(t *testing.T, source string) {
	t.Helper()
	for _, e := range bound(source) {
		for _, row := range rows() {
			got := Eval(e, row)
			if want := modelOf(e, row); got != want {
				t.Fatalf("%q of %+v: %+v; wanted %+v", source, row, got, want)
			}
			if got != yes() && got != no() && !value.Good(got) {
				t.Fatalf("%q of %+v: %+v", source, row, got)
			}
			if flat := evalFlat(e, row); flat != got {
				t.Fatalf("%q of %+v: %+v, flat %+v", source, row, got, flat)
			}
		}
	}
}

// The document's own examples: what is not b = 'x' is not a b that is nothing.
func TestConditionsAsText(t *testing.T) {
	x, unknown := []api.Value{num(1), str("x"), {}, str("i"), {}}, []api.Value{num(2), {}, {}, str("i"), {}}
	for source, want := range map[string][2]int{
		"b = 'x' or b is null":       {1, 1},
		"not b = 'x'":                {0, 2},
		"not not b = 'x'":            {1, 2},
		"b = 'x' and a = 1":          {1, 0},
		"b = 'x' and not a = 1":      {0, 2},
		"b < 'xx' or a < 2":          {1, 2},
		"(b = null) is null":         {1, 1},
		"a + 1 - 1 = a":              {1, 1},
		"a + c = a + c":              {2, 2},
		"999999 + a < 0":             {0, 2},
		"a = 1 and b = 'x' or a = 2": {1, 1},
		"id = 'i' and n is null":     {1, 1},
	} {
		l := bound(source)
		if len(l) != 1 {
			t.Fatalf("%s: %d expressions", source, len(l))
		}
		if got := [2]int{Of(Eval(l[0], x)), Of(Eval(l[0], unknown))}; got != want {
			t.Errorf("%s: %v; wanted %v", source, got, want)
		}
		checkBound(t, source)
	}
}

// FuzzEval holds expressions of texts against the model.
func FuzzEval(f *testing.F) {
	for _, s := range []string{
		"a, b, c, id, n", "a + n - c, a - (n - c), a < n, b < id, b = id", "b is null and not c = 1 or (a = 5) is null",
		"not (not (a < c) or null) and null", "null + 1, null = null, null is null", "c + c, 0 - c - c, c - 1 + 1", "'' = b, '~' < id, -1 < n",
	} {
		f.Add(s)
	}
	f.Fuzz(checkBound)
}
