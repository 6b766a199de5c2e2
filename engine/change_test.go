package engine

import (
	"fmt"
	"strings"
	"testing"

	"askance/api"
	"askance/tree"
)

func TestCreate(t *testing.T) {
	g := New()
	counts(t, g, "create table u (a int must);", 0)
	counts(t, g, "create table t (a int must); create table v (a text must);", 0)
	refused(t, g, "create table w (a int must);", api.ErrFull, 1)
	refused(t, g, "create table t (b int must);", api.ErrTwice, 1)
	selects(t, g, "select * from t;", "")
	counts(t, g, "insert into v values ('x'); insert into u values (1),(2);", 2)
	selects(t, g, "select * from t;", "")
	selects(t, g, "select * from u;", "1, 2")
	selects(t, g, "select * from v;", "'x'")
}

// A new index has all rows that there are.
func TestMark(t *testing.T) {
	for _, col := range []string{"a", "b", "c"} {
		g := two(t)
		counts(t, g, "create index i on t ("+col+");", 0)
		if n := tree.Size(g.Tree()); n != 4+3+4 {
			t.Errorf("%s: %d", col, n)
		}
		selects(t, g, "select a from t where b = 'x';", "-5, 3")
		selects(t, g, "select a from t where c is null;", "1")
		selects(t, g, "select a from t where a < 2;", "-5, 1")
		counts(t, g, "create index j on t ("+col+"); create index k on u (k);", 0)
		if n := tree.Size(g.Tree()); n != 4+3+4+4+3 {
			t.Errorf("%s: %d", col, n)
		}
	}
	g := two(t)
	counts(t, g, "create index i on t (b); create index j on t (b); create index k on t (c); create index l on u (n);", 0)
	refused(t, g, "create index m on u (k);", api.ErrFull, 1)
	refused(t, g, "create index i on u (k);", api.ErrTwice, 1)
	refused(t, g, "create index i on v (k);", api.ErrNone, 1)
	refused(t, g, "create index m on u (a);", api.ErrNone, 1)
}

// Of an index of a table without rows, rows that come are in it, and those that
// go are not.
func TestIndexFollowsRows(t *testing.T) {
	g := made(t, "create table t (a int must, b text); create index i on t (b);")
	sizes := func(n int) {
		t.Helper()
		if got := tree.Size(g.Tree()); got != n {
			t.Errorf("%d; wanted %d", got, n)
		}
	}
	sizes(0)
	counts(t, g, "insert into t values (1,'x'),(2,'x'),(3,null);", 3)
	sizes(6)
	selects(t, g, "select a from t where b = 'x';", "1, 2")
	counts(t, g, "update t set b = 'y' where a = 1;", 1)
	sizes(6)
	selects(t, g, "select a from t where b = 'x';", "2")
	selects(t, g, "select a from t where b = 'y';", "1")
	counts(t, g, "update t set a = a + 10 where b = 'y';", 1)
	sizes(6)
	selects(t, g, "select a from t where b = 'y';", "11")
	counts(t, g, "delete from t where b is null or b = 'x';", 2)
	sizes(2)
	counts(t, g, "delete from t;", 1)
	sizes(0)
}

func TestDrop(t *testing.T) {
	g := two(t)
	counts(t, g, "create index i on t (b); create index j on u (n); create index k on t (c);", 0)
	refused(t, g, "drop table v;", api.ErrNone, 1)
	refused(t, g, "drop table i;", api.ErrNone, 1)
	counts(t, g, "drop table t;", 0)
	if c := g.Catalog(); len(c.Tables) != 1 || c.Tables[0].Name != "u" || len(c.Indexes) != 1 || c.Indexes[0].Name != "j" {
		t.Errorf("%+v", c)
	}
	if n := tree.Size(g.Tree()); n != 6 {
		t.Errorf("%d", n)
	}
	refused(t, g, "select * from t;", api.ErrNone, 1)
	// A table of that name, and indexes of those names, begin without rows.
	counts(t, g, "create table t (k text must); create index i on t (k); create index k on u (k);", 0)
	selects(t, g, "select * from t;", "")
	selects(t, g, "select * from u where k = 'x';", "'x' 1")
	counts(t, g, "drop table u; drop table t;", 0)
	if len(g.Tree().Pages) != 0 || len(g.Catalog().Tables) != 0 || len(g.Catalog().Indexes) != 0 {
		t.Errorf("%+v, %+v", g.Catalog(), g.Tree())
	}
}

// Names of which one begins another one: the tables' rows are apart.
func TestNamesThatBegin(t *testing.T) {
	g := made(t, "create table t (a int must, b int); create table tt (a int must, b int); insert into t values (1,2); insert into tt values (1,3),(2,4);",
		"create index t on tt (b); create index tt on t (b);")
	selects(t, g, "select * from t;", "1 2")
	selects(t, g, "select * from tt where b = 3;", "1 3")
	selects(t, g, "select * from t where b = 3;", "")
	counts(t, g, "delete from t;", 1)
	selects(t, g, "select * from tt where 2 < b;", "1 3, 2 4")
	counts(t, g, "drop table t;", 0)
	selects(t, g, "select * from tt where 2 < b;", "1 3, 2 4")
}

func TestInsert(t *testing.T) {
	g := made(t, "create table t (a int must, b text, c int must, d text must);")
	counts(t, g, "insert into t values (1,'x',2,'y');", 1)
	counts(t, g, "insert into t values (1+1,null,5-7,''),(-1000000,'abcdefgh',1000000,'~'),(3-3,null,0,'q');", 3)
	selects(t, g, "select * from t;", "-1000000 'abcdefgh' 1000000 '~', 0 - 0 'q', 1 'x' 2 'y', 2 - -2 ''")
}

func TestInsertNull(t *testing.T) {
	g := made(t, "create table t (a int must, b text, c int must, d text must); insert into t values (1,'x',2,'y');")
	for _, row := range []string{"(null,'x',1,'y')", "(2,'x',null,'y')", "(2,'x',1,null)", "(null,null,null,null)", "(1000000+1,'x',1,'y')", "(2,'x',-1000000-1,'y')", "(2,'x',1+null,'y')", "(2,'x',(null),'y')"} {
		refused(t, g, "insert into t values "+row+";", api.ErrNull, 1)
		refused(t, g, "insert into t values (7,'x',1,'y'),"+row+",(8,'x',1,'y');", api.ErrNull, 1)
		refused(t, g, "insert into t values (7,'x',1,'y'); insert into t values (8,'x',1,'y'),"+row+";", api.ErrNull, 2)
	}
	counts(t, g, "insert into t values (2,null,1,'y'),(3,(null),999999+1,'y');", 2)
}

func TestInsertTwice(t *testing.T) {
	g := two(t)
	refused(t, g, "insert into t values (1,'q',5);", api.ErrTwice, 1)
	refused(t, g, "insert into t values (1,'y',null);", api.ErrTwice, 1)
	refused(t, g, "insert into t values (4,'q',5),(5,'q',5),(4,'r',6);", api.ErrTwice, 1)
	refused(t, g, "insert into t values (4,'q',5); insert into t values (4,'q',5);", api.ErrTwice, 2)
	refused(t, g, "insert into u values ('',1);", api.ErrTwice, 1)
	// Other columns, and other tables, may have it twice.
	counts(t, g, "insert into t values (4,'x',7),(5,'x',7);", 2)
	counts(t, g, "insert into u values ('xx',1),('X',1),('x ',1);", 3)
	counts(t, g, "create table v (a int must); insert into v values (1),(4);", 2)
	// A row that is gone may come again.
	counts(t, g, "delete from t where a = 4; insert into t values (4,null,null);", 1)
	// Row by row: the first row that may not be there tells the error.
	refused(t, g, "insert into t values (1,'q',5),(null,'q',5);", api.ErrTwice, 1)
	refused(t, g, "insert into t values (null,'q',5),(1,'q',5);", api.ErrNull, 1)
	refused(t, g, "insert into u values ('x',null);", api.ErrNull, 1)
}

// numbered is an insert of rows from a number on, up to ahead of another one.
func numbered(table string, from, to int) string {
	var l []string
	for n := from; n < to; n++ {
		l = append(l, fmt.Sprintf("(%d,%d)", n, n%7))
	}
	return "insert into " + table + " values " + strings.Join(l, ",") + ";"
}

func TestInsertFull(t *testing.T) {
	g := made(t, "create table t (a int must, b int must); create table u (a int must, b int must);")
	refused(t, g, numbered("t", 0, api.MaxRows+1), api.ErrFull, 1)
	counts(t, g, numbered("t", 0, api.MaxRows-1), api.MaxRows-1)
	refused(t, g, numbered("t", 100, 102), api.ErrFull, 1)
	counts(t, g, numbered("t", 100, 101), 1)
	refused(t, g, numbered("t", 101, 102), api.ErrFull, 1)
	refused(t, g, "insert into u values (1,1); insert into t values (101,1);", api.ErrFull, 2)
	// The other errors are ahead of it.
	refused(t, g, "insert into t values (100,1);", api.ErrTwice, 1)
	refused(t, g, "insert into t values (100,null);", api.ErrNull, 1)
	refused(t, g, "insert into t values (101,null);", api.ErrNull, 1)
	refused(t, g, "insert into t values (101,1),(100,1);", api.ErrFull, 1)
	// It is of a table, and indexes do not count.
	counts(t, g, "create index i on t (b); create index j on u (b);", 0)
	counts(t, g, numbered("u", 0, api.MaxRows), api.MaxRows)
	refused(t, g, "insert into u values (99,1);", api.ErrFull, 1)
	// A full table may be changed.
	counts(t, g, "update t set a = a + 1, b = b + 1;", api.MaxRows)
	counts(t, g, "update u set b = 5 where a < 3;", 3)
	counts(t, g, "delete from t where a = 1; insert into t values (7777,1);", 1)
	refused(t, g, "insert into t values (7778,1);", api.ErrFull, 1)
}

func TestDelete(t *testing.T) {
	for _, one := range []struct {
		where string
		n     int
		rest  string
	}{
		{"", 4, ""}, {" where b = 'x'", 2, "1, 2"}, {" where not b = 'x'", 1, "-5, 2, 3"}, {" where b is null", 1, "-5, 1, 3"}, {" where not b is null", 3, "2"},
		{" where a < 2", 2, "2, 3"}, {" where 2 < a", 1, "-5, 1, 2"}, {" where a = 99", 0, "-5, 1, 2, 3"}, {" where null", 0, "-5, 1, 2, 3"}, {" where not null", 0, "-5, 1, 2, 3"},
		{" where 1 = 1", 4, ""}, {" where 1 = 2", 0, "-5, 1, 2, 3"}, {" where c = 7 and b = 'x'", 1, "-5, 1, 2"}, {" where c = 7 or b = 'x'", 3, "1"}, {" where b = null", 0, "-5, 1, 2, 3"},
		{" where c = 7 or b = 'y' or c is null", 3, "-5"}, {" where c < 7", 1, "1, 2, 3"}, {" where not c < 7", 2, "-5, 1"}, {" where a = c - 5", 2, "1, 3"}, {" where t.a = 3 or a = -5", 2, "1, 2"},
	} {
		for _, index := range []string{"", "create index i on t (b);", "create index i on t (c);", "create index i on t (a); create index j on t (b); create index k on t (c);"} {
			g := two(t)
			counts(t, g, index, 0)
			counts(t, g, "delete from t"+one.where+";", one.n)
			selects(t, g, "select a from t;", one.rest)
			selects(t, g, "select k from u;", "'', 'x', 'y'")
			counts(t, g, "delete from t"+one.where+";", 0)
		}
	}
	refused(t, two(t), "delete from v;", api.ErrNone, 1)
	refused(t, two(t), "delete from t where a;", api.ErrType, 1)
	refused(t, two(t), "delete from t where k = 'x';", api.ErrNone, 1)
}

func TestUpdate(t *testing.T) {
	for _, one := range []struct {
		change string
		n      int
		rows   string
	}{
		{"set b = 'q'", 4, "-5 'q' 0, 1 'q' -, 2 'q' 7, 3 'q' 7"},
		{"set b = 'q' where c = 7", 2, "-5 'x' 0, 1 'y' -, 2 'q' 7, 3 'q' 7"},
		{"set b = null, c = 1 where b = 'x'", 2, "-5 - 1, 1 'y' -, 2 - 7, 3 - 1"},
		{"set a = a + 1", 4, "-4 'x' 0, 2 'y' -, 3 - 7, 4 'x' 7"},
		{"set a = a - 1", 4, "-6 'x' 0, 0 'y' -, 1 - 7, 2 'x' 7"},
		{"set a = 6 - a where 0 < a", 3, "-5 'x' 0, 3 'x' 7, 4 - 7, 5 'y' -"},
		{"set a = c, c = a where b = 'x'", 2, "0 'x' -5, 1 'y' -, 2 - 7, 7 'x' 3"},
		{"set c = a, a = c where b = 'x'", 2, "0 'x' -5, 1 'y' -, 2 - 7, 7 'x' 3"},
		{"set c = c + a", 4, "-5 'x' -5, 1 'y' -, 2 - 9, 3 'x' 10"},
		{"set c = 1000000 + a", 4, "-5 'x' 999995, 1 'y' -, 2 - -, 3 'x' -"},
		{"set a = a", 4, "-5 'x' 0, 1 'y' -, 2 - 7, 3 'x' 7"},
		{"set a = 9 where a = 9", 0, "-5 'x' 0, 1 'y' -, 2 - 7, 3 'x' 7"},
		{"set b = 'q' where null", 0, "-5 'x' 0, 1 'y' -, 2 - 7, 3 'x' 7"},
		{"set b = 'q' where not b = 'x'", 1, "-5 'x' 0, 1 'q' -, 2 - 7, 3 'x' 7"},
		{"set a = 3 where a = 3", 1, "-5 'x' 0, 1 'y' -, 2 - 7, 3 'x' 7"},
		{"set a = 5 - a where a = 2 or a = 3", 2, "-5 'x' 0, 1 'y' -, 2 'x' 7, 3 - 7"},
	} {
		for _, index := range []string{"", "create index i on t (b);", "create index i on t (c);", "create index i on t (a); create index j on t (b); create index k on t (c);"} {
			g := two(t)
			counts(t, g, index, 0)
			size := tree.Size(g.Tree())
			counts(t, g, "update t "+one.change+";", one.n)
			selects(t, g, "select * from t;", one.rows)
			selects(t, g, "select * from u;", "'' 2, 'x' 1, 'y' 2")
			if n := tree.Size(g.Tree()); n != size {
				t.Errorf("%s: %d; was %d", one.change, n, size)
			}
		}
	}
}

func TestUpdateErrors(t *testing.T) {
	for _, one := range []struct {
		s string
		e api.Errno
	}{
		{"update t set a = 9;", api.ErrTwice}, {"update t set a = 1 where a = 2;", api.ErrTwice}, {"update t set a = a + 1 where a = 1 or a = 3;", api.ErrTwice},
		{"update t set a = a + 1 where b = 'x' or b = 'y';", api.ErrTwice},
		{"update t set a = null;", api.ErrNull}, {"update t set a = null where a = 2;", api.ErrNull}, {"update t set a = c where c is null;", api.ErrNull}, {"update t set a = a + 1000000;", api.ErrNull},
		{"update u set n = null where k = '';", api.ErrNull}, {"update u set n = n - 1000000 - 1000000;", api.ErrNull}, {"update u set k = null;", api.ErrNull}, {"update u set k = 'q';", api.ErrTwice},
		{"update u set k = 'x', n = null where k = 'y';", api.ErrNull},
		// By first values: of the rows -5, 1, 2, 3 the first that may not be there tells the error.
		{"update t set a = c;", api.ErrNull}, {"update t set a = c where not a = 1;", api.ErrTwice}, {"update t set a = c - c where not a = 2;", api.ErrNull},
		{"update t set a = c + 1 - 1 where b = 'x' or b is null;", api.ErrTwice},
		{"update v set a = 1;", api.ErrNone}, {"update t set k = 1;", api.ErrNone}, {"update t set a = 'x';", api.ErrType}, {"update t set a = 1, a = 1;", api.ErrTwice}, {"update t set a = 1 where a;", api.ErrType},
	} {
		for _, index := range []string{"", "create index i on t (b);", "create index i on t (c); create index j on u (n);"} {
			g := two(t)
			counts(t, g, index, 0)
			refused(t, g, one.s, one.e, 1)
		}
	}
}

// Which error comes first hangs on the order of the rows, not on the way to them.
func TestUpdateByFirstValues(t *testing.T) {
	for _, index := range []string{"", "create index i on t (b);", "create index i on t (c); create index j on t (b);"} {
		g := made(t, "create table t (a int must, b int, c int); insert into t values (1,30,5),(2,20,null),(5,99,0);", index)
		refused(t, g, "update t set a = c where b < 50;", api.ErrTwice, 1)
		counts(t, g, "update t set c = null where a = 1; update t set c = 5 where a = 2;", 1)
		refused(t, g, "update t set a = c where b < 50;", api.ErrNull, 1)
	}
}
