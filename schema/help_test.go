package schema

import (
	"reflect"
	"testing"

	"askance/api"
	"askance/syntax"
)

// two is a catalog with room for one more table: b is a column of both tables,
// a column of u is named as a table is, and an index as a table.
func two() api.Catalog {
	return api.Catalog{
		Tables: []api.Table{
			{Name: "t", Cols: []api.Col{{Name: "a", Type: api.Int, Must: true}, {Name: "b", Type: api.Text}}},
			{Name: "u", Cols: []api.Col{{Name: "id", Type: api.Text, Must: true}, {Name: "b", Type: api.Int}, {Name: "t", Type: api.Text, Must: true}}},
		},
		Indexes: []api.Index{{Name: "i", Table: "t", Col: "b"}, {Name: "u", Table: "u", Col: "id"}},
	}
}

func table(name string, cols ...api.Col) api.Table { return api.Table{Name: name, Cols: cols} }

func must(name string) api.Col { return api.Col{Name: name, Type: api.Int, Must: true} }

func may(name string) api.Col { return api.Col{Name: name, Type: api.Text} }

func number(n int) api.Expr {
	return api.Expr{Op: api.Lit, V: api.Value{Kind: api.Int, N: n}}
}

func text(s string) api.Expr {
	return api.Expr{Op: api.Lit, V: api.Value{Kind: api.Text, S: s}}
}

func nothing() api.Expr { return api.Expr{Op: api.Lit} }

func ref(table, name string, place int) api.Expr {
	return api.Expr{Op: api.Ref, S: table, Name: name, N: place}
}

func of(op int, args ...api.Expr) api.Expr { return api.Expr{Op: op, L: args} }

// deep is an expression of that many levels.
func deep(levels int) api.Expr {
	e := nothing()
	for range levels - 1 {
		e = of(api.Not, e)
	}
	return e
}

// command is the only one of a text.
func command(t *testing.T, source string) api.Stmt {
	t.Helper()
	l, e := syntax.Script(source)
	if e != api.OK || len(l) != 1 {
		t.Fatalf("%s: %d commands, %d", source, len(l), e)
	}
	return l[0]
}

// same is whether two structs are alike, lists without elements being all alike.
func same(a, b any) bool {
	return alike(reflect.ValueOf(a), reflect.ValueOf(b))
}

func alike(a, b reflect.Value) bool {
	switch a.Kind() {
	case reflect.Slice:
		if a.Len() != b.Len() {
			return false
		}
		for i := range a.Len() {
			if !alike(a.Index(i), b.Index(i)) {
				return false
			}
		}
		return true
	case reflect.Struct:
		for i := range a.NumField() {
			if !alike(a.Field(i), b.Field(i)) {
				return false
			}
		}
		return true
	}
	return a.Interface() == b.Interface()
}

// answers wants an error of a command, and with it an empty one.
func answers(t *testing.T, c api.Catalog, s api.Stmt, want api.Errno) {
	t.Helper()
	got, e := Bind(c, s)
	if e != want {
		t.Errorf("%+v: %d; wanted %d", s, e, want)
	}
	if e != api.OK && !same(got, api.Stmt{}) {
		t.Errorf("%+v: %d with %+v", s, e, got)
	}
}

// says wants an error of a text.
func says(t *testing.T, c api.Catalog, want api.Errno, sources ...string) {
	t.Helper()
	for _, source := range sources {
		if _, e := Bind(c, command(t, source)); e != want {
			t.Errorf("%s: %d; wanted %d", source, e, want)
		}
		answers(t, c, command(t, source), want)
	}
}

// becomes wants a command to be bound so.
func becomes(t *testing.T, c api.Catalog, s, want api.Stmt) {
	t.Helper()
	got, e := Bind(c, s)
	if e != api.OK || !same(got, want) {
		t.Errorf("%+v:\n%+v, %d; wanted\n%+v", s, got, e, want)
	}
}
