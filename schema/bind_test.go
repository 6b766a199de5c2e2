package schema

import (
	"testing"

	"askance/api"
)

// odd is a command with something in all that its kind has no use for.
func odd(s api.Stmt) api.Stmt {
	s.Down, s.N = true, -7
	if s.Kind != api.Create {
		s.Cols = []api.Col{{Type: 9}}
	}
	if s.Kind != api.Select {
		s.From, s.Out, s.Order = []string{"from"}, []api.Expr{ref("v", "x", 3)}, []api.Expr{ref("v", "x", 4), of(api.Plus, text("x"), text("y"))}
	} else {
		s.Name, s.Table, s.Col = "v", "from", ""
	}
	if s.Kind < api.Insert || s.Kind == api.Select {
		s.Rows, s.Sets = [][]api.Expr{{}, {ref("v", "x", 5)}}, []api.Set{{Col: "v", E: ref("v", "x", 6)}}
	}
	if s.Kind < api.Insert {
		s.Where = ref("v", "x", 7)
	}
	return s
}

// ordinary is a command of each kind that is bound without an error, and a
// table that two has room for.
func ordinary(t *testing.T) []api.Stmt {
	var l []api.Stmt
	for _, source := range []string{"create table v (a int must);", "create index j on u (b);", "drop table t;", "insert into t values (1,'x');", "delete from t where a = 1;", "update t set a = 2 where b = 'x';", "select a from t where b is null order by a;"} {
		l = append(l, command(t, source))
	}
	return l
}

func TestBindWhatIsNotGood(t *testing.T) {
	for _, s := range ordinary(t) {
		answers(t, two(), s, api.OK)
		for _, c := range []api.Catalog{{Tables: []api.Table{{}}}, {Tables: tables("t", "t", "u")}, {Tables: tables("t", "u"), Indexes: indexes("j", "i")}, {Tables: tables("a", "b", "t", "u")}} {
			answers(t, c, s, api.ErrForm)
		}
		for _, bad := range badExprs() {
			for _, change := range []func(*api.Stmt){
				func(s *api.Stmt) { s.Where = bad },
				func(s *api.Stmt) { s.Out = []api.Expr{nothing(), bad} },
				func(s *api.Stmt) { s.Order = []api.Expr{bad, nothing()} },
				func(s *api.Stmt) { s.Rows = [][]api.Expr{{nothing(), nothing()}, {nothing(), bad}} },
				func(s *api.Stmt) { s.Sets = []api.Set{{Col: "a", E: nothing()}, {Col: "b", E: bad}} },
			} {
				one := s
				change(&one)
				answers(t, two(), one, api.ErrForm)
			}
		}
		// An operation 0 is a Where that is not there, but not an Out.
		one := s
		one.Out = []api.Expr{{}}
		answers(t, two(), one, api.ErrForm)
		one = s
		one.Where = api.Expr{L: []api.Expr{{Op: 99}}, Name: "?"}
		answers(t, two(), one, api.OK)
	}
	for _, kind := range []int{0, -1, 8, 1 << 40, -1 << 40} {
		answers(t, two(), api.Stmt{Kind: kind}, api.ErrForm)
		answers(t, two(), api.Stmt{Kind: kind, Name: "t", Table: "t", From: []string{"t"}}, api.ErrForm)
	}
	// It is ahead of all else that is wrong.
	answers(t, two(), api.Stmt{Kind: api.Drop, Name: "v", Order: []api.Expr{of(11)}}, api.ErrForm)
	answers(t, two(), api.Stmt{Kind: api.Insert, Table: "v", Rows: [][]api.Expr{{}, {of(0)}}}, api.ErrForm)
}

func TestBindKeepsAllElse(t *testing.T) {
	for _, s := range ordinary(t) {
		want, e := Bind(two(), s)
		if e != api.OK {
			t.Fatalf("%+v: %d", s, e)
		}
		becomes(t, two(), odd(s), odd(want))
	}
}

func TestBindCreate(t *testing.T) {
	c := two()
	s := command(t, "create table v (a int must, b text, c int);")
	becomes(t, c, s, s)
	says(t, c, api.OK, "create table a (a int must);", "create table z (t text must, u int must);", "create table i (b int must);")
	says(t, c, api.ErrForm, "create table v (a int);", "create table v (a int, b int must);", "create table v (a int must, a text);", "create table v (a int must, b int, c int, d int, e int);", "create table t (a int);")
	says(t, c, api.ErrTwice, "create table t (a int must);", "create table u (a int must);")
	full := api.Catalog{Tables: tables("a", "b", "t")}
	says(t, full, api.ErrForm, "create table v (a int);", "create table t (a int);")
	says(t, full, api.ErrTwice, "create table a (a int must);", "create table t (a int must);")
	says(t, full, api.ErrFull, "create table aa (a int must);", "create table z (a int must);")
	for _, name := range []string{"", "from", "abcdefghi", "V", "v1"} {
		answers(t, c, api.Stmt{Kind: api.Create, Name: name, Cols: []api.Col{must("a")}}, api.ErrForm)
	}
	answers(t, c, api.Stmt{Kind: api.Create, Name: "v"}, api.ErrForm)
	answers(t, c, api.Stmt{Kind: api.Create, Name: "v", Cols: []api.Col{must("a"), {Name: "b", Type: api.Truth}}}, api.ErrForm)
	answers(t, api.Catalog{}, api.Stmt{Kind: api.Create, Name: "v", Cols: []api.Col{must("a")}}, api.OK)
}

func TestBindMark(t *testing.T) {
	c := two()
	s := command(t, "create index j on u (b);")
	becomes(t, c, s, s)
	says(t, c, api.OK, "create index t on t (a);", "create index a on t (b);", "create index z on u (t);")
	says(t, c, api.ErrNone, "create index j on v (a);", "create index j on t (c);", "create index j on t (id);", "create index j on u (u);", "create index i on v (a);", "create index i on t (c);")
	says(t, c, api.ErrTwice, "create index i on t (b);", "create index i on u (b);", "create index u on t (a);")
	full := api.Catalog{Tables: tables("t"), Indexes: indexes("b", "d", "f", "h")}
	says(t, full, api.ErrNone, "create index j on v (a);", "create index b on t (c);")
	says(t, full, api.ErrTwice, "create index b on t (a);", "create index h on t (b);")
	says(t, full, api.ErrFull, "create index a on t (a);", "create index i on t (b);")
	full.Indexes = full.Indexes[1:]
	says(t, full, api.OK, "create index b on t (a);")
	for _, name := range []string{"", "from", "abcdefghi", "J", "j "} {
		answers(t, c, api.Stmt{Kind: api.Mark, Name: name, Table: "t", Col: "a"}, api.ErrForm)
		answers(t, c, api.Stmt{Kind: api.Mark, Name: name, Table: "v", Col: "a"}, api.ErrForm)
	}
	answers(t, c, api.Stmt{Kind: api.Mark, Name: "j", Table: "", Col: "a"}, api.ErrNone)
	answers(t, c, api.Stmt{Kind: api.Mark, Name: "j", Table: "t", Col: ""}, api.ErrNone)
}

func TestBindDrop(t *testing.T) {
	s := command(t, "drop table u;")
	becomes(t, two(), s, s)
	says(t, two(), api.OK, "drop table t;")
	says(t, two(), api.ErrNone, "drop table i;", "drop table a;", "drop table v;")
	says(t, api.Catalog{}, api.ErrNone, "drop table t;")
	for _, name := range []string{"", "from", "T"} {
		answers(t, two(), api.Stmt{Kind: api.Drop, Name: name, Table: "t"}, api.ErrNone)
	}
}

func TestBindInsert(t *testing.T) {
	c := two()
	for _, source := range []string{"insert into t values (1,'x');", "insert into t values (null,null),(1+2-null,'y'),(-1,'');", "insert into u values ('x',1,'y');"} {
		s := command(t, source)
		becomes(t, c, s, s)
	}
	none := api.Stmt{Kind: api.Insert, Table: "t"}
	becomes(t, c, none, none)
	says(t, c, api.ErrNone, "insert into v values (1,'x');", "insert into v values (1);", "insert into i values (1,'x');", "insert into t values (a,'x');", "insert into t values (t.a,'x');", "insert into t values (1,b);", "insert into t values (1+a,'x');",
		// Row by row, and from the left on.
		"insert into t values (a,1);", "insert into t values (1,b),(1);", "insert into t values ('x'+a,1);")
	says(t, c, api.ErrType, "insert into t values (1);", "insert into t values (1,'x',null);", "insert into t values (1,'x'),(2),(3,'z');", "insert into t values ('x','y');", "insert into t values (1,2);", "insert into t values (1 = 1,'x');", "insert into t values (null is null,'x');", "insert into t values (1,not null);", "insert into t values (1,1+1);", "insert into t values ('x'+1,'x');", "insert into t values (1,'x'),(1,2);", "insert into u values ('x',1,2);", "insert into u values ('x','y','z');", "insert into t values (a);", "insert into t values ('x',b);", "insert into t values (1),(a,'x');")
	answers(t, c, api.Stmt{Kind: api.Insert, Table: "t", Rows: [][]api.Expr{{}}}, api.ErrType)
	answers(t, c, api.Stmt{Kind: api.Insert, Table: "t", Rows: [][]api.Expr{nil, {ref("", "a", 0), nothing()}}}, api.ErrType)
	answers(t, c, api.Stmt{Kind: api.Insert, Name: "t", Rows: [][]api.Expr{{nothing(), nothing()}}}, api.ErrNone)
}

func TestBindDelete(t *testing.T) {
	c := two()
	s := command(t, "delete from u;")
	becomes(t, c, s, s)
	s = command(t, "delete from u where u.b = 1 and t = id;")
	bound := s
	bound.Where = of(api.And, of(api.Eq, ref("u", "b", 1), number(1)), of(api.Eq, ref("", "t", 2), ref("", "id", 0)))
	becomes(t, c, s, bound)
	says(t, c, api.OK, "delete from t where null;", "delete from t where a is null;", "delete from t where not b = 'x';", "delete from t where (a = 1) is null;")
	says(t, c, api.ErrNone, "delete from v;", "delete from v where a;", "delete from i;", "delete from t where id = 'x';", "delete from t where u.b = 1;", "delete from u where t.b = 'x';", "delete from t where 'x' + c = 1;")
	says(t, c, api.ErrType, "delete from t where a;", "delete from t where b;", "delete from t where 1;", "delete from t where 'x';", "delete from t where a + 1;", "delete from t where a and a = 1;", "delete from t where a = b;")
}

func TestBindUpdate(t *testing.T) {
	c := two()
	s := command(t, "update u set t = u.t, b = b + 1, id = null where u.id < t;")
	bound := s
	bound.Sets = []api.Set{{Col: "t", E: ref("u", "t", 2)}, {Col: "b", E: of(api.Plus, ref("", "b", 1), number(1))}, {Col: "id", E: nothing()}}
	bound.Where = of(api.Lt, ref("u", "id", 0), ref("", "t", 2))
	becomes(t, c, s, bound)
	none := api.Stmt{Kind: api.Update, Table: "t"}
	becomes(t, c, none, none)
	says(t, c, api.OK, "update t set a = a;", "update t set a = null, b = null where null;", "update t set b = b, a = a - a;")
	says(t, c, api.ErrNone, "update v set a = 1;", "update v set a = 1, a = 2 where a;", "update t set c = 1;", "update t set id = 'x';", "update t set a = 1, c = 'x';", "update t set c = 'x' + 1;", "update t set a = c;", "update t set a = u.b;", "update t set a = 'x' + c;", "update t set a = 1 where c = 1;", "update t set c = 1, a = 'x';")
	says(t, c, api.ErrTwice, "update t set a = 1, a = 2;", "update t set a = 1, b = 'x', a = a;", "update t set a = 1, a = c;", "update t set a = 1, a = 'x';", "update t set a = 1, a = 2, c = 3;", "update t set a = 1, a = 2 where a;")
	says(t, c, api.ErrType, "update t set a = b;", "update t set b = a;", "update t set a = 'x';", "update t set b = 1;", "update t set a = (a = 1);", "update t set b = not null;", "update t set a = b + 1;", "update t set a = a where a;", "update t set a = a where b;", "update t set a = 1 where a = b;", "update t set a = 'x', a = 1;", "update t set a = 'x', c = 1;", "update t set a = 1, b = 2 where c = 1;")
}

// TestBindChange: the three kinds that change rows are bound as one.
func TestBindChange(t *testing.T) {
	for kind := api.Insert; kind <= api.Update; kind++ {
		s := api.Stmt{Kind: kind, Table: "t", Rows: [][]api.Expr{{number(1), text("x")}}, Sets: []api.Set{{Col: "b", E: ref("", "b", 0)}}, Where: of(api.Is, ref("t", "b", 0))}
		bound := s
		bound.Sets = []api.Set{{Col: "b", E: ref("", "b", 1)}}
		bound.Where = of(api.Is, ref("t", "b", 1))
		becomes(t, two(), s, bound)
		missing, wrong := ref("", "c", 0), of(api.Not, number(1))
		where := s
		where.Where = wrong
		answers(t, two(), where, api.ErrType)
		sets := where
		sets.Sets = append(sets.Sets[:1:1], api.Set{Col: "a", E: missing})
		answers(t, two(), sets, api.ErrNone)
		rows := sets
		rows.Rows = append(rows.Rows[:1:1], []api.Expr{wrong, nothing()})
		answers(t, two(), rows, api.ErrType)
	}
}

func TestBindSelect(t *testing.T) {
	c := two()
	s := command(t, "select u.b, t.b, a + a, id is null from t, u where a = u.b and id = t.b order by t.a desc limit 5;")
	bound := s
	bound.Out = []api.Expr{ref("u", "b", 3), ref("t", "b", 1), of(api.Plus, ref("", "a", 0), ref("", "a", 0)), of(api.Is, ref("", "id", 2))}
	bound.Where = of(api.And, of(api.Eq, ref("", "a", 0), ref("u", "b", 3)), of(api.Eq, ref("", "id", 2), ref("t", "b", 1)))
	bound.Order = []api.Expr{ref("t", "a", 0)}
	becomes(t, c, s, bound)
	s = command(t, "select b, t from u;")
	bound = s
	bound.Out = []api.Expr{ref("", "b", 1), ref("", "t", 2)}
	becomes(t, c, s, bound)
	s = api.Stmt{Kind: api.Select, From: []string{"t"}, Order: []api.Expr{ref("", "b", 0), ref("", "a", 9), number(1)}}
	bound = s
	bound.Out = []api.Expr{ref("t", "a", 0), ref("t", "b", 1)}
	bound.Order = []api.Expr{ref("", "b", 1), ref("", "a", 0), number(1)}
	becomes(t, c, s, bound)
	says(t, c, api.OK, "select a from t, u;", "select t.a, u.id from t, u;", "select 1, null, 'x', not null from t;", "select null = null from t;", "select * from t where null;", "select a = 1 from t order by b < 'x';", "select a < null, null + 1 from t where not (a = 1);", "select b from t;", "select b from u;")
	says(t, c, api.ErrNone, "select a from v;", "select a from t, v;", "select a from v, t;", "select a from v, v;", "select b from t, u;", "select b from u, t;", "select id from t;", "select v.a from t;", "select u.b from t;", "select t.id from t, u;", "select a from u;", "select a from t where b = id;", "select a from t, u where b is null;", "select a from t, u order by b;", "select i.b from t;")
	says(t, c, api.ErrTwice, "select a from t, t;", "select zz from u, u;", "select a + 'x' from t, t where a;")
	says(t, c, api.ErrType, "select a + 'x' from t;", "select a = 'x' from t;", "select not a from t;", "select a from t where a;", "select a from t where b;", "select a from t where a + 1;", "select a from t order by b + 1;", "select (a = 1) = (a = 2) from t;", "select (a = 1) = null from t;", "select (a = 1) + null from t;", "select a < b from t;")
	says(t, c, api.ErrForm, "select a from t, u, t;", "select a from t, t, v;", "select a from v, v, v;", "select a + 'x' from t, u, v;")
	answers(t, c, api.Stmt{Kind: api.Select, Out: []api.Expr{nothing()}}, api.ErrForm)
	answers(t, c, api.Stmt{Kind: api.Select, Table: "t", From: []string{}}, api.ErrForm)
	answers(t, c, api.Stmt{Kind: api.Select, From: []string{""}}, api.ErrNone)
	answers(t, c, api.Stmt{Kind: api.Select, From: []string{"t", "from"}}, api.ErrNone)
}

func TestBindSelectInOrder(t *testing.T) {
	// Of Out, Order and Where that are all wrong the first one counts.
	says(t, two(), api.ErrNone, "select zz, a + 'x' from t where a order by not a;", "select a from t where a order by zz;", "select a from t where zz order by a;")
	says(t, two(), api.ErrType, "select a + 'x', zz from t where zz order by zz;", "select a from t where zz order by not a;", "select a from t where a order by a;")
}

func TestBindAllColumns(t *testing.T) {
	t2 := []api.Expr{ref("t", "a", 0), ref("t", "b", 1)}
	u3 := []api.Expr{ref("u", "id", 0), ref("u", "b", 1), ref("u", "t", 2)}
	tu := append(t2[:2:2], ref("u", "id", 2), ref("u", "b", 3), ref("u", "t", 4))
	ut := append(u3[:3:3], ref("t", "a", 3), ref("t", "b", 4))
	for source, out := range map[string][]api.Expr{"select * from t;": t2, "select * from u;": u3, "select * from t, u;": tu, "select * from u, t;": ut} {
		s := command(t, source)
		bound := s
		bound.Out = out
		becomes(t, two(), s, bound)
		s.Out = []api.Expr{}
		becomes(t, two(), s, bound)
		becomes(t, two(), bound, bound)
	}
}

// TestLongSum: a sum is as deep as it has terms.
func TestLongSum(t *testing.T) {
	sum := "1"
	for n := 1; n < 60; n++ {
		want := api.OK
		if n > 40 {
			want = api.ErrForm
		}
		says(t, two(), want, "select "+sum+" from t;", "delete from t where a = "+sum[:max(1, len(sum)-2)]+";")
		sum += "+1"
	}
}
