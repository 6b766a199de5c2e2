package syntax

import (
	"testing"

	"askance/api"
)

func TestCreateTable(t *testing.T) {
	means(t, "create table t (a int);", api.Stmt{Kind: api.Create, Name: "t", Cols: []api.Col{{Name: "a", Type: api.Int}}, N: -1})
	means(t, "create table frog (a int must, b text, c text must,d int);", api.Stmt{Kind: api.Create, Name: "frog", Cols: []api.Col{
		{Name: "a", Type: api.Int, Must: true}, {Name: "b", Type: api.Text}, {Name: "c", Type: api.Text, Must: true}, {Name: "d", Type: api.Int}}, N: -1})
	// That columns are too many, or of one name, is not a matter of the form.
	accepted(t, "create table t (a int, a text, a int, a int, a int, a int);")
	for _, s := range []string{"create", "create t", "create table", "create table t", "create table t a int", "create table t ()", "create table t (a)", "create table t (a int",
		"create table t a int)", "create table t (a int,)", "create table t (,a int)", "create table t (a int b int)", "create table t (a must)", "create table t (a must int)",
		"create table t (a int must must)", "create table t (int a)", "create table t (a bool)", "create table t (a null)", "create table t (a int null)", "create table t (a int text)",
		"create table t (t.a int)", "create table t (a int) (b int)", "create table t (a int), u (a int)", "create table t (a int) where a", "create table t ((a int))", "create table (a int)", "create table t on (a int)", "table t (a int)"} {
		refused(t, s+";")
	}
}

func TestCreateIndex(t *testing.T) {
	means(t, "create index i on t (b);", api.Stmt{Kind: api.Mark, Name: "i", Table: "t", Col: "b", N: -1})
	means(t, "create index t on i(t);", api.Stmt{Kind: api.Mark, Name: "t", Table: "i", Col: "t", N: -1})
	for _, s := range []string{"create index", "create index i", "create index i on", "create index i on t", "create index i on t b", "create index i on t ()", "create index i on t (b", "create index i on t b)",
		"create index i on t (a, b)", "create index i on t (t.b)", "create index i on t (b desc)", "create index i on t ((b))", "create index i t (b)", "create i on t (b)", "create index on t (b)", "create index i, j on t (b)", "create index i on t (b) where b", "create index i on t (b int)", "create table index i on t (b)", "index i on t (b)"} {
		refused(t, s+";")
	}
}

func TestDropTable(t *testing.T) {
	means(t, "drop table t;", api.Stmt{Kind: api.Drop, Name: "t", N: -1})
	for _, s := range []string{"drop", "drop table", "drop t", "drop index i", "drop table t, u", "drop table t u", "drop table (t)", "drop table t where a", "drop table t.a", "drop from t", "drop table *"} {
		refused(t, s+";")
	}
}

func TestInsert(t *testing.T) {
	means(t, "insert into t values (1);", api.Stmt{Kind: api.Insert, Table: "t", Rows: [][]api.Expr{{number(1)}}, N: -1})
	means(t, "insert into t values (1,'x'),(null),(a,- 2, b = c);", api.Stmt{Kind: api.Insert, Table: "t", Rows: [][]api.Expr{
		{number(1), text("x")}, {nothing()}, {column("a"), number(-2), of(api.Eq, column("b"), column("c"))}}, N: -1})
	for _, s := range []string{"insert", "insert into", "insert into t", "insert into t values", "insert into t values ()", "insert into t values 1", "insert into t values (1", "insert into t values 1)", "insert into t values (1,)",
		"insert into t values (,1)", "insert into t values (1),", "insert into t values ,(1)", "insert into t values (1)(2)", "insert into t values (1),2", "insert into t values (1),()", "insert into t values ((1, 2))", "insert into t values ((1),(2)",
		"insert t values (1)", "insert into values (1)", "insert into t (a) values (1)", "insert into t (1)", "insert into t, u values (1)", "insert into t values (*)", "insert into t values (1) where a", "insert into t values (1) limit 1", "insert into t select * from u", "insert into t values (1 2)"} {
		refused(t, s+";")
	}
}

func TestDelete(t *testing.T) {
	means(t, "delete from t;", api.Stmt{Kind: api.Delete, Table: "t", N: -1})
	means(t, "delete from t where a;", api.Stmt{Kind: api.Delete, Table: "t", Where: column("a"), N: -1})
	for _, s := range []string{"delete", "delete t", "delete from", "delete * from t", "delete from t, u", "delete from t where", "delete from t where a, b", "delete from t where a where b", "delete from t order by a", "delete from t where a order by a", "delete from t limit 1", "delete from where a", "delete from t a", "delete from (t)"} {
		refused(t, s+";")
	}
}

func TestUpdate(t *testing.T) {
	means(t, "update t set a = 1;", api.Stmt{Kind: api.Update, Table: "t", Sets: []api.Set{{Col: "a", E: number(1)}}, N: -1})
	means(t, "update t set a = b = c, b = null,a=a where c < 2;", api.Stmt{Kind: api.Update, Table: "t", Sets: []api.Set{
		{Col: "a", E: of(api.Eq, column("b"), column("c"))}, {Col: "b", E: nothing()}, {Col: "a", E: column("a")}}, Where: of(api.Lt, column("c"), number(2)), N: -1})
	for _, s := range []string{"update", "update t", "update t set", "update t set a", "update t set a =", "update t set = 1", "update t set a 1", "update t set a < 1", "update t set a = 1,", "update t set ,a = 1", "update t set a = 1 b = 2", "update t set a = 1, b", "update t set a = 1, b < 2",
		"update t set t.a = 1", "update t set (a = 1)", "update t set a = = 1", "update t set 1 = a", "update t, u set a = 1", "update set a = 1", "update t a = 1", "update t set a = 1 where", "update t set a = 1 where b, c", "update t where b set a = 1", "update t set a = 1 order by a", "update t set a = 1 limit 1", "update t set *", "update from t set a = 1", "update t set a = b = c = d"} {
		refused(t, s+";")
	}
}

func TestSelect(t *testing.T) {
	a, b := column("a"), column("b")
	means(t, "select * from t;", api.Stmt{Kind: api.Select, From: []string{"t"}, N: -1})
	means(t, "select a from t;", api.Stmt{Kind: api.Select, Out: []api.Expr{a}, From: []string{"t"}, N: -1})
	means(t, "select a, b,b = 1 from t, u,t, v;", api.Stmt{Kind: api.Select, Out: []api.Expr{a, b, of(api.Eq, b, number(1))}, From: []string{"t", "u", "t", "v"}, N: -1})
	means(t, "select * from t where a;", api.Stmt{Kind: api.Select, From: []string{"t"}, Where: a, N: -1})
	means(t, "select * from t order by b;", api.Stmt{Kind: api.Select, From: []string{"t"}, Order: []api.Expr{b}, N: -1})
	means(t, "select * from t order by b desc;", api.Stmt{Kind: api.Select, From: []string{"t"}, Order: []api.Expr{b}, Down: true, N: -1})
	means(t, "select * from t limit 0;", api.Stmt{Kind: api.Select, From: []string{"t"}, N: 0})
	means(t, "select * from t limit 5;", api.Stmt{Kind: api.Select, From: []string{"t"}, N: 5})
	means(t, "select * from t where a limit 5;", api.Stmt{Kind: api.Select, From: []string{"t"}, Where: a, N: 5})
	means(t, "select * from t order by b limit 5;", api.Stmt{Kind: api.Select, From: []string{"t"}, Order: []api.Expr{b}, N: 5})
	means(t, "select * from t where a order by b desc limit 5;", api.Stmt{Kind: api.Select, From: []string{"t"}, Where: a, Order: []api.Expr{b}, Down: true, N: 5})
	means(t, "select * from t where a order by b;", api.Stmt{Kind: api.Select, From: []string{"t"}, Where: a, Order: []api.Expr{b}, N: -1})
	for _, s := range []string{"select", "select *", "select a", "select from t", "select * from", "select * t", "select *, a from t", "select a, * from t", "select * * from t", "select (*) from t", "select t.* from t", "select a, from t", "select , a from t", "select a b from t", "select * from t,", "select * from , t", "select * from t u",
		"select * from (t)", "select * from t.u", "select * from 'u'", "select * from *", "select * from t where", "select * where a from t", "select * from t where a, b", "select * from t where a where b",
		"select * from t order", "select * from t order a", "select * from t by a", "select * from t order by", "select * from t order by a, b", "select * from t order by desc", "select * from t order by a desc desc", "select * from t desc", "select * from t where a desc", "select * from t order by desc a", "select * from t order by a order by b", "select * from t order by a desc, b", "select * from t order by *",
		"select * from t limit", "select * from t limit a", "select * from t limit 1 limit 2", "select * from t limit 1, 2", "select * from t limit 1 desc", "select * from t order by a limit 1 desc",
		"select * from t order by a where b", "select * from t limit 5 order by a", "select * from t limit 5 where a", "select * from t where a limit 5 order by a", "select * from t order by a limit 5 where b", "(select * from t)"} {
		refused(t, s+";")
	}
}

func TestNoSuchCommand(t *testing.T) {
	for _, s := range []string{"a", "1", "'a'", "(", "*", "begin", "from t", "where a", "table t", "values (1)", "null", "not a", "set a = 1", "into t values (1)", "selects * from t", "show", "a = 1"} {
		refused(t, s+";")
		refused(t, "drop table t;"+s+";")
	}
}

func TestCommandsOneBehindTheOther(t *testing.T) {
	means(t, "create table t (a int must, b text); insert into t values (1,'x'),(2,null);",
		api.Stmt{Kind: api.Create, Name: "t", Cols: []api.Col{{Name: "a", Type: api.Int, Must: true}, {Name: "b", Type: api.Text}}, N: -1},
		api.Stmt{Kind: api.Insert, Table: "t", Rows: [][]api.Expr{{number(1), text("x")}, {number(2), nothing()}}, N: -1})
	means(t, "select a from t where b = 'x' or b is null order by a desc limit 2;select b from u;",
		api.Stmt{Kind: api.Select, Out: []api.Expr{column("a")}, From: []string{"t"}, Where: of(api.Or, of(api.Eq, column("b"), text("x")), of(api.Is, column("b"))), Order: []api.Expr{column("a")}, Down: true, N: 2},
		api.Stmt{Kind: api.Select, Out: []api.Expr{column("b")}, From: []string{"u"}, N: -1})
	means(t, "create index i on t (b);drop table t;delete from t where a;update t set b = a;",
		api.Stmt{Kind: api.Mark, Name: "i", Table: "t", Col: "b", N: -1}, api.Stmt{Kind: api.Drop, Name: "t", N: -1},
		api.Stmt{Kind: api.Delete, Table: "t", Where: column("a"), N: -1}, api.Stmt{Kind: api.Update, Table: "t", Sets: []api.Set{{Col: "b", E: column("a")}}, N: -1})
}
