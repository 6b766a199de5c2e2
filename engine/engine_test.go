package engine

import (
	"fmt"
	"reflect"
	"slices"
	"strings"
	"testing"

	"askance/api"
	"askance/tree"
)

func TestNew(t *testing.T) {
	g := New()
	if g == nil {
		t.Fatal("nil")
	}
	if c := g.Catalog(); len(c.Tables) != 0 || len(c.Indexes) != 0 {
		t.Errorf("%+v", c)
	}
	if tr := g.Tree(); len(tr.Pages) != 0 {
		t.Errorf("%+v", tr)
	}
	made(t, "create table t (a int must); insert into t values (1);")
	if c := New().Catalog(); len(c.Tables) != 0 {
		t.Errorf("%+v", c)
	}
}

func TestNil(t *testing.T) {
	var g *Engine
	for _, s := range []string{"", "create table t (a int must);", "?", strings.Repeat(" ", api.MaxSource+1)} {
		wants(t, g, s, api.Reply{Code: api.ErrNone})
	}
	for range 200 {
		wants(t, g, "", api.Reply{Code: api.ErrNone})
	}
	if c, tr := g.Catalog(), g.Tree(); len(c.Tables) != 0 || len(c.Indexes) != 0 || len(tr.Pages) != 0 {
		t.Errorf("%+v, %+v", c, tr)
	}
}

func TestCatalog(t *testing.T) {
	g := made(t, "create table u (k text must, n int must); create table t (a int must, b text);", "create index j on u (n); create index i on t (b);")
	want := api.Catalog{
		Tables: []api.Table{
			{Name: "t", Cols: []api.Col{{Name: "a", Type: api.Int, Must: true}, {Name: "b", Type: api.Text}}},
			{Name: "u", Cols: []api.Col{{Name: "k", Type: api.Text, Must: true}, {Name: "n", Type: api.Int, Must: true}}},
		},
		Indexes: []api.Index{{Name: "i", Table: "t", Col: "b"}, {Name: "j", Table: "u", Col: "n"}},
	}
	if got := g.Catalog(); !reflect.DeepEqual(got, want) {
		t.Errorf("%+v", got)
	}
	counts(t, g, "drop table u;", 0)
	if got := g.Catalog(); !reflect.DeepEqual(got, api.Catalog{Tables: want.Tables[:1], Indexes: want.Indexes[:1]}) {
		t.Errorf("%+v", got)
	}
}

// holdsJust wants a good tree with just those keys and texts.
func holdsJust(t *testing.T, g *Engine, want map[string]string) {
	t.Helper()
	if got := content(t, g.Tree()); !reflect.DeepEqual(got, want) {
		t.Errorf("%q; wanted %q", got, want)
	}
}

func TestTree(t *testing.T) {
	g := made(t, "create table t (a int must, b text); insert into t values (1,'x'),(2,null);", "create table u (k text must); insert into u values ('y');")
	rows := map[string]string{
		"rt\x00\x02\x40\x00\x00\x01": "\x02\x40\x00\x00\x01\x03x\x00",
		"rt\x00\x02\x40\x00\x00\x02": "\x02\x40\x00\x00\x02\x01",
		"ru\x00\x03y\x00":            "\x03y\x00",
	}
	holdsJust(t, g, rows)
	counts(t, g, "create index t on t (b);", 0)
	rows["xt\x00\x03x\x00\x02\x40\x00\x00\x01"] = ""
	rows["xt\x00\x01\x02\x40\x00\x00\x02"] = ""
	holdsJust(t, g, rows)
	counts(t, g, "update t set b = 'z' where a = 1;", 1)
	rows["rt\x00\x02\x40\x00\x00\x01"] = "\x02\x40\x00\x00\x01\x03z\x00"
	delete(rows, "xt\x00\x03x\x00\x02\x40\x00\x00\x01")
	rows["xt\x00\x03z\x00\x02\x40\x00\x00\x01"] = ""
	holdsJust(t, g, rows)
	counts(t, g, "drop table t;", 0)
	holdsJust(t, g, map[string]string{"ru\x00\x03y\x00": "\x03y\x00"})
	counts(t, g, "drop table u;", 0)
	holdsJust(t, g, map[string]string{})
}

// spoil writes into all room that an answer has, spare room too.
func spoil(c api.Catalog, tr api.Tree, rows [][]api.Value) {
	for _, one := range c.Tables {
		spoilAll(one.Cols, api.Col{Name: "zzz"})
	}
	spoilAll(c.Tables, api.Table{Name: "zzz"})
	spoilAll(c.Indexes, api.Index{Name: "zzz"})
	for _, p := range tr.Pages {
		spoilAll(p.Keys, "zzz")
		spoilAll(p.Vals, "zzz")
	}
	spoilAll(tr.Pages, api.Page{})
	for _, row := range rows {
		spoilAll(row, api.Value{Kind: 99})
	}
	spoilAll(rows, nil)
}

func spoilAll[T any](l []T, one T) {
	l = l[:cap(l)]
	for i := range l {
		l[i] = one
	}
}

// What an engine answers is the caller's.
func TestAnswersAreTheCallers(t *testing.T) {
	g := two(t)
	counts(t, g, "create index i on t (b); create index j on u (n); insert into t values (11,'x',1),(12,'y',2),(13,'z',null);", 3)
	catalog, tr, all := g.Catalog(), g.Tree(), "select * from t, u order by a desc;"
	first := do(g, all).Rows
	kept := told(first)
	wantCatalog, wantTree := fmt.Sprint(catalog), fmt.Sprint(tr)
	spoil(g.Catalog(), g.Tree(), do(g, all).Rows)
	if fmt.Sprint(catalog) != wantCatalog || fmt.Sprint(tr) != wantTree || told(first) != kept {
		t.Error("answers share room with each other")
	}
	spoil(catalog, tr, first)
	if fmt.Sprint(g.Catalog()) != wantCatalog || fmt.Sprint(g.Tree()) != wantTree {
		t.Errorf("%v, %v", g.Catalog(), g.Tree())
	}
	selects(t, g, all, kept)
	counts(t, g, "create table v (a int must); insert into v values (1);", 1)
	counts(t, g, "delete from t where b = 'x';", 3)
	selects(t, g, "select a from t;", "1, 2, 12, 13")
}

// No two rows of one answer share room, spare room either.
func TestRowsDoNotShare(t *testing.T) {
	g := two(t)
	rows := do(g, "select a, k, n from t, u;").Rows
	for i, row := range rows {
		_ = append(row[:len(row):cap(row)], num(99))
		for k, other := range rows {
			if i != k && &row[0] == &other[0] {
				t.Errorf("%d, %d", i, k)
			}
		}
	}
	if want := do(g, "select a, k, n from t, u;").Rows; !reflect.DeepEqual(rows, want) {
		t.Errorf("%v; wanted %v", rows, want)
	}
}

// What an engine answered stays as it is, whatever is done then.
func TestAnswersStay(t *testing.T) {
	g := two(t)
	catalog, tr, rows := g.Catalog(), g.Tree(), do(g, "select * from t;").Rows
	was := fmt.Sprint(catalog, tr, rows)
	counts(t, g, "create index i on t (b); update t set b = 'q', a = a + 1; delete from u;", 3)
	counts(t, g, "drop table u; create table a (a int must); insert into a values (1);", 1)
	if fmt.Sprint(catalog, tr, rows) != was {
		t.Errorf("%v; was %s", fmt.Sprint(catalog, tr, rows), was)
	}
}

func TestScriptErrors(t *testing.T) {
	g := two(t)
	long := "select a from t;"
	long += strings.Repeat(" ", api.MaxSource-len(long))
	for s, e := range map[string]api.Errno{
		"?": api.ErrForm, "select a from t": api.ErrForm, "delete from t; selekt a from t;": api.ErrForm, "delete from t; select 'it''s' from t;": api.ErrForm, ";": api.ErrForm,
		long + " ": api.ErrLong, strings.Repeat("?", api.MaxSource+1): api.ErrLong,
		strings.Repeat("delete from t;", api.MaxStmts+1): api.ErrLong, strings.Repeat("drop table zz;", api.MaxStmts+1): api.ErrLong,
		strings.Repeat("delete from t;", api.MaxStmts+1) + "?": api.ErrForm,
	} {
		refused(t, g, s, e, 0)
	}
	selects(t, g, long, "-5, 1, 2, 3")
	wants(t, g, strings.Repeat("delete from u;", api.MaxStmts), api.Reply{})
}

func TestNoCommands(t *testing.T) {
	g := two(t)
	for _, s := range []string{"", " ", "\n \n"} {
		refused(t, g, s, api.OK, 0)
	}
}

// The reply is that of the last command alone.
func TestLastCommand(t *testing.T) {
	g := two(t)
	counts(t, g, "select a from t; delete from t where a = 1;", 1)
	counts(t, g, "delete from t where a = 2; create index i on t (b);", 0)
	counts(t, g, "insert into u values ('q',1),('r',1); create table v (a int must);", 0)
	counts(t, g, "insert into v values (1),(2); drop table v;", 0)
	selects(t, g, "delete from t where a = 3; select a from t;", "-5")
	selects(t, g, "select a from t; select a from t where a = 1;", "")
	selects(t, g, "select a from t; select k from u limit 2;", "'', 'q'")
	counts(t, g, "insert into t values (1,null,1),(2,null,1); delete from t where a < 0; update t set c = 5;", 2)
}

// Of an error which command it was; and nothing of the script is done.
func TestFirstError(t *testing.T) {
	for _, one := range []struct {
		s string
		e api.Errno
		n int
	}{
		{"select a from v;", api.ErrNone, 1},
		{"select a from t; select a from v;", api.ErrNone, 2},
		{"delete from t; select zz from t; select a from v;", api.ErrNone, 2},
		{"delete from t; delete from u; drop table t; drop table u; create table z (a int must); insert into z values (1,2);", api.ErrType, 6},
		{"create table v (a int must); create table v (a int must);", api.ErrTwice, 2},
		{"create table v (a int must); create table w (a int must);", api.ErrFull, 2},
		{"create table v (a int);", api.ErrForm, 1},
		{"create index i on t (b); create index i on t (c);", api.ErrTwice, 2},
		{"create index i on t (b); insert into t values (9,'x',1),(1,'y',2);", api.ErrTwice, 2},
		{"insert into t values (9,'x',1),(8,'y',2); insert into u values ('q',null);", api.ErrNull, 2},
		{"delete from t; update u set n = null; select a from v;", api.ErrNull, 2},
		{"drop table t; update u set k = 'x';", api.ErrTwice, 2},
		{"update t set a = a + 10; delete from u where k; drop table t;", api.ErrType, 2},
		{"insert into t values (1,'x',1); select ? from t;", api.ErrForm, 0},
	} {
		refused(t, two(t), one.s, one.e, one.n)
		g := two(t)
		counts(t, g, "create index x on t (c);", 0)
		refused(t, g, one.s, one.e, one.n)
		// Behind a refusal all is as if it had not been.
		selects(t, g, "select a from t where c = 7;", "2, 3")
		counts(t, g, "insert into t values (99,'x',7);", 1)
		selects(t, g, "select a from t where c = 7;", "2, 3, 99")
	}
}

// Command by command, as the catalog is then: what one command makes is there
// for the next, and what one takes is not.
func TestAsTheCatalogIsThen(t *testing.T) {
	g := New()
	selects(t, g, "create table t (a int must); insert into t values (2),(1); create index i on t (a); select a from t where a = 2; delete from t where a = 2; select a from t;", "1")
	selects(t, g, "drop table t; create table t (b text must); insert into t values ('x'); select b from t;", "'x'")
	refused(t, g, "drop table t; select b from t;", api.ErrNone, 2)
	refused(t, g, "drop table t; create table t (c int must); select b from t;", api.ErrNone, 3)
	refused(t, g, "drop table t; drop table t;", api.ErrNone, 2)
	// The error of a command that comes first is told, even if a later one could not be bound.
	refused(t, g, "insert into t values (null); select zz from t;", api.ErrNull, 1)
	refused(t, g, "select zz from t; insert into t values (null);", api.ErrNone, 1)
}

func TestMaxActs(t *testing.T) {
	for _, s := range []string{"", "?", "select a from t;", "select a from v;", "insert into t values (1,null,null);", strings.Repeat(" ", 2000)} {
		g := two(t)
		for range api.MaxActs - 2 {
			if r := do(g, s); r.Code == api.ErrFull {
				t.Fatalf("%q: %+v", s, r)
			}
		}
		for _, then := range []string{"", "?", "select a from t;", "delete from t;", s} {
			refused(t, g, then, api.ErrFull, 0)
		}
		if n := tree.Size(g.Tree()); n != 7 {
			t.Errorf("%d", n)
		}
	}
	// The last one that may be is done.
	g := New()
	for range api.MaxActs - 1 {
		refused(t, g, "drop table t;", api.ErrNone, 1)
	}
	counts(t, g, "create table t (a int must); insert into t values (1);", 1)
	refused(t, g, "select a from t;", api.ErrFull, 0)
}

func TestEnginesAreApart(t *testing.T) {
	g, h := two(t), two(t)
	counts(t, g, "delete from t;", 4)
	selects(t, h, "select a from t;", "-5, 1, 2, 3")
	// So are copies: a copy is a whole engine.
	other := *h
	counts(t, h, "update t set c = 1; create index i on t (c);", 0)
	selects(t, &other, "select a from t where c = 7;", "2, 3")
	counts(t, &other, "drop table t;", 0)
	selects(t, h, "select a from t where c = 1;", "-5, 1, 2, 3")
}

func acts(sources ...string) []api.Act {
	var l []api.Act
	for _, s := range sources {
		l = append(l, api.Act{Text: s})
	}
	return l
}

func TestRun(t *testing.T) {
	l := acts("create table t (a int must, b text); insert into t values (1,'x'),(2,null);",
		"select a from t where b = 'x' or b is null order by a desc;", "select a from t where not b = 'x';",
		"insert into t values (3,'y'),(1,'z');", "?", "select a, b from t;", "", "drop table t; drop table t;", "delete from t where a = 1;", "select a from v;")
	given := slices.Clone(l)
	want := []api.Reply{
		{N: 2}, {Rows: [][]api.Value{{num(2)}, {num(1)}}}, {}, {Code: api.ErrTwice, N: 1}, {Code: api.ErrForm},
		{Rows: [][]api.Value{{num(1), str("x")}, {num(2), {}}}}, {}, {Code: api.ErrNone, N: 2}, {N: 1}, {Code: api.ErrNone, N: 1},
	}
	for range 2 {
		got, e := Run(l)
		if e != api.OK || !slices.EqualFunc(got, want, sameReply) {
			t.Errorf("%+v, %d", got, e)
		}
	}
	if !slices.Equal(l, given) {
		t.Errorf("%q", l)
	}
}

func TestRunOfMany(t *testing.T) {
	for _, n := range []int{0, 1, 2, api.MaxActs - 1, api.MaxActs} {
		got, e := Run(make([]api.Act, n))
		if len(got) != n || e != api.OK {
			t.Errorf("%d: %v, %d", n, got, e)
		}
		for _, r := range got {
			if !sameReply(r, api.Reply{}) {
				t.Errorf("%+v", r)
			}
		}
	}
	for _, n := range []int{api.MaxActs + 1, api.MaxActs + 2, 100000} {
		if got, e := Run(make([]api.Act, n)); len(got) != 0 || e != api.ErrFull {
			t.Errorf("%d: %v, %d", n, got, e)
		}
	}
	if got, e := Run(nil); len(got) != 0 || e != api.OK {
		t.Errorf("%v, %d", got, e)
	}
}
