package schema

import (
	"reflect"
	"testing"

	"askance/api"
)

// with wants a catalog to be another one behind the command of a text.
func with(t *testing.T, c api.Catalog, source string, want api.Catalog) {
	t.Helper()
	s, e := Bind(c, command(t, source))
	if e != api.OK {
		t.Fatalf("%s: %d", source, e)
	}
	got := With(c, s)
	if !same(got, want) || !Good(got) {
		t.Errorf("%s: %+v; wanted %+v", source, got, want)
	}
}

func TestWithCreate(t *testing.T) {
	for _, one := range []struct {
		have []api.Table
		name string
		want []api.Table
	}{
		{nil, "t", tables("t")},
		{tables("b", "d"), "a", tables("a", "b", "d")},
		{tables("b", "d"), "c", tables("b", "c", "d")},
		{tables("b", "d"), "e", tables("b", "d", "e")},
		{tables("b"), "bb", tables("b", "bb")},
	} {
		with(t, api.Catalog{Tables: one.have}, "create table "+one.name+" (a int must, b text);", api.Catalog{Tables: one.want})
	}
	want := two()
	want.Tables = append(want.Tables, table("v", must("a"), may("b")))
	with(t, two(), "create table v (a int must, b text);", want)
}

func TestWithMark(t *testing.T) {
	for _, one := range []struct {
		have []api.Index
		name string
		want []api.Index
	}{
		{nil, "t", indexes("t")},
		{indexes("b", "d", "f"), "a", indexes("a", "b", "d", "f")},
		{indexes("b", "d", "f"), "c", indexes("b", "c", "d", "f")},
		{indexes("b", "d", "f"), "e", indexes("b", "d", "e", "f")},
		{indexes("b", "d", "f"), "g", indexes("b", "d", "f", "g")},
	} {
		c := api.Catalog{Tables: tables("t", "u"), Indexes: one.have}
		with(t, c, "create index "+one.name+" on t (b);", api.Catalog{Tables: c.Tables, Indexes: one.want})
	}
	want := two()
	want.Indexes = []api.Index{want.Indexes[0], {Name: "j", Table: "u", Col: "t"}, want.Indexes[1]}
	with(t, two(), "create index j on u (t);", want)
}

func TestWithDrop(t *testing.T) {
	with(t, two(), "drop table t;", api.Catalog{Tables: two().Tables[1:], Indexes: two().Indexes[1:]})
	with(t, two(), "drop table u;", api.Catalog{Tables: two().Tables[:1], Indexes: two().Indexes[:1]})
	with(t, api.Catalog{Tables: tables("t")}, "drop table t;", api.Catalog{})
	x := func(name, table string) api.Index { return api.Index{Name: name, Table: table, Col: "a"} }
	c := api.Catalog{Tables: tables("i", "j", "k"), Indexes: []api.Index{x("i", "j"), x("j", "i"), x("k", "j"), x("l", "k")}}
	with(t, c, "drop table j;", api.Catalog{Tables: tables("i", "k"), Indexes: []api.Index{x("j", "i"), x("l", "k")}})
	with(t, c, "drop table i;", api.Catalog{Tables: tables("j", "k"), Indexes: []api.Index{x("i", "j"), x("k", "j"), x("l", "k")}})
}

func TestWithOthers(t *testing.T) {
	for _, source := range []string{"insert into t values (1,'x');", "delete from t;", "update t set a = 1;", "select * from t;"} {
		with(t, two(), source, two())
	}
	for _, kind := range []int{0, -1, 8} {
		if got := With(two(), api.Stmt{Kind: kind, Name: "t", Table: "t", Col: "a"}); !same(got, two()) {
			t.Errorf("%d: %+v", kind, got)
		}
	}
}

// TestWithWhatIsNotBound: nothing is promised of it but an end.
func TestWithWhatIsNotBound(t *testing.T) {
	for _, c := range []api.Catalog{{}, two(), {Tables: tables("c", "a", "b", "a"), Indexes: indexes("z", "", "z")}} {
		for kind := -1; kind <= 8; kind++ {
			for _, name := range []string{"", "a", "t", "zz"} {
				With(c, api.Stmt{Kind: kind, Name: name, Table: name, Col: name})
			}
		}
	}
}

// roomy is a catalog whose lists have spare room, with something in it.
func roomy() api.Catalog {
	c := two()
	c.Tables = append(c.Tables, table("spare", may("room")), table("more", may("room")))[:2]
	c.Indexes = append(c.Indexes, api.Index{Name: "spare"}, api.Index{Name: "more"})[:2]
	for i := range c.Tables {
		c.Tables[i].Cols = append(c.Tables[i].Cols, may("spare"))[:len(c.Tables[i].Cols)]
	}
	return c
}

// whole is lists up to the end of their spare room.
func whole(v reflect.Value) any {
	switch v.Kind() {
	case reflect.Slice:
		l := []any{}
		for i := range v.Cap() {
			l = append(l, whole(v.Slice(0, v.Cap()).Index(i)))
		}
		return l
	case reflect.Struct:
		l := []any{}
		for i := range v.NumField() {
			l = append(l, whole(v.Field(i)))
		}
		return l
	}
	return v.Interface()
}

func roomyList(l ...api.Expr) []api.Expr {
	return append(l, ref("spare", "room", 99), of(77))[:len(l)]
}

func roomyStmt(kind int) api.Stmt {
	where := api.Expr{Op: api.Eq, L: roomyList(api.Expr{Op: api.Plus, L: roomyList(ref("t", "a", 8), number(1))}, number(2))}
	return api.Stmt{Kind: kind, Name: "v", Table: "t", Col: "a", Cols: append([]api.Col{must("a")}, may("spare"))[:1],
		Rows:  append([][]api.Expr{roomyList(number(1), text("x")), roomyList(nothing(), nothing())}, roomyList())[:2],
		Sets:  append([]api.Set{{Col: "a", E: where.L[0]}}, api.Set{Col: "spare"})[:1],
		From:  append([]string{"u", "t"}, "spare")[:2],
		Out:   roomyList(where, ref("", "t", 9)),
		Order: roomyList(ref("u", "b", 5)),
		Where: where, N: 3}
}

func TestNothingHandedInIsChanged(t *testing.T) {
	for kind := 0; kind <= 8; kind++ {
		for _, empty := range []bool{false, true} {
			c, s := roomy(), roomyStmt(kind)
			if kind == api.Drop {
				s.Name = "t"
			}
			if empty {
				s.Out = roomyList()
			}
			wasC, wasS := whole(reflect.ValueOf(c)), whole(reflect.ValueOf(s))
			bound, e := Bind(c, s)
			if (e == api.OK) != (1 <= kind && kind <= 7) {
				t.Errorf("%d: %d", kind, e)
			}
			wasBound := whole(reflect.ValueOf(bound))
			d := With(c, bound)
			With(d, bound)
			Good(c)
			GoodTable(c.Tables[0])
			GoodExpr(s.Where, 40)
			FindTable(c, "u")
			FindCol(c.Tables[1], "b")
			if !reflect.DeepEqual(wasC, whole(reflect.ValueOf(c))) || !reflect.DeepEqual(wasS, whole(reflect.ValueOf(s))) || !reflect.DeepEqual(wasBound, whole(reflect.ValueOf(bound))) {
				t.Errorf("%d: changed", kind)
			}
		}
	}
}
