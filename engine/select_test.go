package engine

import (
	"reflect"
	"strings"
	"testing"

	"askance/api"
)

// everyWay wants the same rows, whichever indexes there are.
func everyWay(t *testing.T, source, want string) {
	t.Helper()
	for _, index := range []string{
		"", "create index i on t (a);", "create index i on t (b);", "create index i on t (c);", "create index i on u (k);", "create index i on u (n);",
		"create index i on t (b); create index j on t (c); create index k on u (k); create index l on u (n);",
	} {
		g := two(t)
		counts(t, g, index, 0)
		selects(t, g, source, want)
	}
}

func TestSelectAll(t *testing.T) {
	everyWay(t, "select * from t;", "-5 'x' 0, 1 'y' -, 2 - 7, 3 'x' 7")
	everyWay(t, "select * from u;", "'' 2, 'x' 1, 'y' 2")
	everyWay(t, "select a, b, c from t;", "-5 'x' 0, 1 'y' -, 2 - 7, 3 'x' 7")
	g := made(t, "create table t (a int must); create table u (k text must);")
	selects(t, g, "select * from t;", "")
	selects(t, g, "select * from t, u;", "")
	counts(t, g, "insert into t values (1);", 1)
	selects(t, g, "select * from t, u;", "")
	selects(t, g, "select * from u, t;", "")
	counts(t, g, "insert into u values ('x');", 1)
	selects(t, g, "select * from t, u;", "1 'x'")
	selects(t, g, "select * from u, t;", "'x' 1")
}

func TestOut(t *testing.T) {
	everyWay(t, "select c, a, c from t;", "0 -5 0, - 1 -, 7 2 7, 7 3 7")
	everyWay(t, "select a + 1, a < c, b = 'x', b is null, not b = 'x' from t;", "-4 yes yes no no, 2 - no no yes, 3 yes - yes -, 4 yes yes no no")
	everyWay(t, "select 1, 'q', null, 1 = 1, 1 = 2, null = 1 from t;", strings.Repeat("1 'q' - yes no -, ", 3)+"1 'q' - yes no -")
	everyWay(t, "select a + 1000000, a - 1000000 from t;", "999995 -, - -999999, - -999998, - -999997")
	everyWay(t, "select t.a, t.b from t;", "-5 'x', 1 'y', 2 -, 3 'x'")
	everyWay(t, "select b = 'x' or b is null, b = 'x' and null from t;", "yes -, no no, yes -, yes -")
}

func TestWhere(t *testing.T) {
	for where, want := range map[string]string{
		"a = 1": "1", "1 = a": "1", "a < 2": "-5, 1", "2 < a": "3", "not a < 2": "2, 3", "not a = 2": "-5, 1, 3", "a = a": "-5, 1, 2, 3", "a = 1 or a = 3": "1, 3", "a = 1 and a = 3": "",
		"b = 'x'": "-5, 3", "not b = 'x'": "1", "b is null": "2", "not b is null": "-5, 1, 3", "b = 'x' or b is null": "-5, 2, 3", "b < 'y'": "-5, 3", "'x' < b": "1", "b = null": "", "b = ''": "", "b = b": "-5, 1, 3",
		"c = 7": "2, 3", "c < 7": "-5", "not c < 7": "2, 3", "c is null": "1", "c < a": "", "a < c": "-5, 2, 3", "c = 7 and b = 'x'": "3", "c = 7 and not b = 'x'": "", "c = 7 or b = 'x'": "-5, 2, 3", "not (c = 7 or b = 'x')": "", "not (c = 7 and b = 'x')": "-5, 1",
		"null": "", "not null": "", "(a = 1) is null": "", "(b = 'x') is null": "2", "1 = 1": "-5, 1, 2, 3", "1 < 1": "", "null is null": "-5, 1, 2, 3",
		"a + 1 = 2": "1", "a + c = 9": "2", "a = -5": "-5", "a + 1000000 is null": "1, 2, 3", "a < 1000000 and not a < -1000000": "-5, 1, 2, 3",
	} {
		everyWay(t, "select a from t where "+where+";", want)
	}
}

func TestTwoTables(t *testing.T) {
	everyWay(t, "select a, k from t, u;", "-5 '', -5 'x', -5 'y', 1 '', 1 'x', 1 'y', 2 '', 2 'x', 2 'y', 3 '', 3 'x', 3 'y'")
	everyWay(t, "select a, k from u, t;", "-5 '', 1 '', 2 '', 3 '', -5 'x', 1 'x', 2 'x', 3 'x', -5 'y', 1 'y', 2 'y', 3 'y'")
	everyWay(t, "select * from t, u where b = k;", "-5 'x' 0 'x' 1, 1 'y' - 'y' 2, 3 'x' 7 'x' 1")
	everyWay(t, "select * from u, t where b = k;", "'x' 1 -5 'x' 0, 'x' 1 3 'x' 7, 'y' 2 1 'y' -")
	everyWay(t, "select a, k from t, u where a = n;", "1 'x', 2 '', 2 'y'")
	everyWay(t, "select a, k from t, u where a = n and k = 'y';", "2 'y'")
	everyWay(t, "select a, k from t, u where u.n = 1 or t.c is null;", "-5 'x', 1 '', 1 'x', 1 'y', 2 'x', 3 'x'")
	everyWay(t, "select a, k from t, u where b = 'x' and n = 2;", "-5 '', -5 'y', 3 '', 3 'y'")
	everyWay(t, "select a, k from t, u where not (b = 'x' or n = 2);", "1 'x'")
	everyWay(t, "select a, k from t, u where b is null and k = '';", "2 ''")
	everyWay(t, "select a, k from t, u where null;", "")
	everyWay(t, "select a, k from u, t where n < a and a < 3;", "2 'x'")
	for s, e := range map[string]api.Errno{"select * from t, t;": api.ErrTwice, "select * from t, v;": api.ErrNone, "select * from t, u, t;": api.ErrForm, "select v.a from t, u;": api.ErrNone} {
		refused(t, two(t), s, e, 1)
	}
	g := two(t)
	counts(t, g, "create table v (a int must, b text); insert into v values (3,'x'),(2,'y');", 2)
	refused(t, g, "select a from t, v;", api.ErrNone, 1)
	selects(t, g, "select t.a, v.a from t, v where t.b = v.b;", "-5 3, 1 2, 3 3")
}

func TestOrder(t *testing.T) {
	for order, want := range map[string]string{
		"a": "-5, 1, 2, 3", "a desc": "3, 2, 1, -5",
		// Nothing is ahead of all; rows that are alike rise by their first values, even if the order falls.
		"b": "2, -5, 3, 1", "b desc": "1, -5, 3, 2", "c": "1, -5, 2, 3", "c desc": "2, 3, -5, 1",
		"1": "-5, 1, 2, 3", "1 desc": "-5, 1, 2, 3", "null": "-5, 1, 2, 3", "null desc": "-5, 1, 2, 3",
		// Truths: nobody knows, no, yes.
		"b = 'x'": "2, 1, -5, 3", "b = 'x' desc": "-5, 3, 1, 2", "b is null": "-5, 1, 3, 2", "b is null desc": "2, -5, 1, 3", "c < 5": "1, 2, 3, -5", "c < 5 desc": "-5, 2, 3, 1",
		"0 - a": "3, 2, 1, -5", "a + 999998": "3, -5, 1, 2", "a + 999998 desc": "2, 1, -5, 3",
	} {
		everyWay(t, "select a from t order by "+order+";", want)
	}
	// By what Order comes to, not by what Out does; of those for which Where holds.
	everyWay(t, "select b, 0 - a from t where not a = 2 order by c desc;", "'x' -3, 'x' 5, 'y' -1")
	everyWay(t, "select 1 from t where a < 0 order by b;", "1")
}

func TestOrderOfTexts(t *testing.T) {
	g := made(t, "create table t (k text must, n int); insert into t values ('b',1),('',1),('a',2),('B',2),('ab',1),('~',0),(' ',0);")
	selects(t, g, "select k from t;", "'', ' ', 'B', 'a', 'ab', 'b', '~'")
	selects(t, g, "select k from t order by k desc;", "'~', 'b', 'ab', 'a', 'B', ' ', ''")
	selects(t, g, "select k from t order by n;", "' ', '~', '', 'ab', 'b', 'B', 'a'")
	selects(t, g, "select k from t order by n desc;", "'B', 'a', '', 'ab', 'b', ' ', '~'")
}

// Numbers are ordered as such, not as texts are, and those below 0 are ahead.
func TestOrderOfNumbers(t *testing.T) {
	g := made(t, "create table t (a int must); insert into t values (10),(9),(100),(-1),(-10),(0),(256),(255),(1000000),(-1000000);")
	want := "-1000000, -10, -1, 0, 9, 10, 100, 255, 256, 1000000"
	selects(t, g, "select a from t;", want)
	selects(t, g, "select a from t order by a;", want)
	selects(t, g, "select a from t order by a desc;", "1000000, 256, 255, 100, 10, 9, 0, -1, -10, -1000000")
}

func TestOrderOfTwoTables(t *testing.T) {
	everyWay(t, "select n, a, k from t, u where 0 < a order by n;", "1 1 'x', 1 2 'x', 1 3 'x', 2 1 '', 2 1 'y', 2 2 '', 2 2 'y', 2 3 '', 2 3 'y'")
	everyWay(t, "select n, a, k from t, u where 0 < a order by n desc;", "2 1 '', 2 1 'y', 2 2 '', 2 2 'y', 2 3 '', 2 3 'y', 1 1 'x', 1 2 'x', 1 3 'x'")
	everyWay(t, "select n, k, a from u, t where 0 < a order by n desc;", "2 '' 1, 2 '' 2, 2 '' 3, 2 'y' 1, 2 'y' 2, 2 'y' 3, 1 'x' 1, 1 'x' 2, 1 'x' 3")
	everyWay(t, "select a, k from t, u where 1 < a order by b = k desc;", "3 'x', 3 '', 3 'y', 2 '', 2 'x', 2 'y'")
	everyWay(t, "select a, k from t, u where 0 < a order by a + n desc limit 4;", "3 '', 3 'y', 2 '', 2 'y'")
}

func TestLimit(t *testing.T) {
	for limit, want := range map[string]string{"0": "", "1": "-5", "2": "-5, 1", "3": "-5, 1, 2", "4": "-5, 1, 2, 3", "5": "-5, 1, 2, 3", "1000000": "-5, 1, 2, 3"} {
		everyWay(t, "select a from t limit "+limit+";", want)
	}
	// It is of the rows for which Where holds, in their order.
	everyWay(t, "select a from t order by a desc limit 2;", "3, 2")
	everyWay(t, "select a from t where c = 7 limit 1;", "2")
	everyWay(t, "select a from t where c = 7 order by a desc limit 1;", "3")
	everyWay(t, "select a, k from t, u where b = k order by k desc limit 2;", "1 'y', -5 'x'")
	everyWay(t, "select a, k from t, u limit 4;", "-5 '', -5 'x', -5 'y', 1 ''")
	everyWay(t, "select a from t where a = 99 limit 3;", "")
}

// A select changes nothing.
func TestSelectChangesNothing(t *testing.T) {
	g := two(t)
	counts(t, g, "create index i on t (b);", 0)
	catalog, tr := g.Catalog(), content(t, g.Tree())
	selects(t, g, "select a from t where b = 'x' order by c desc; select * from t, u; select a from t order by b desc limit 1;", "1")
	if !sameCatalog(g.Catalog(), catalog) || !reflect.DeepEqual(content(t, g.Tree()), tr) {
		t.Errorf("%+v, %q; was %+v, %q", g.Catalog(), g.Tree(), catalog, tr)
	}
}

// As many rows as there may be of two tables.
func TestAllOfTwoFullTables(t *testing.T) {
	g := made(t, "create table t (a int must, b int must); create table u (c int must, d int must);", numbered("t", 0, api.MaxRows), numbered("u", 0, api.MaxRows))
	r := do(g, "select a, c from t, u order by b + d desc;")
	if len(r.Rows) != api.MaxRows*api.MaxRows {
		t.Fatalf("%d", len(r.Rows))
	}
	for i, row := range r.Rows[1:] {
		x, y := r.Rows[i], row
		a, b := x[0].N%7+x[1].N%7, y[0].N%7+y[1].N%7
		if a < b || a == b && x[0].N*100+x[1].N >= y[0].N*100+y[1].N {
			t.Fatalf("%v ahead of %v", x, y)
		}
	}
	selects(t, g, "select a, c from t, u where a = c and b = 6 and 20 < a;", "27 27")
}

func TestExamplesOfTheDocument(t *testing.T) {
	g := New()
	counts(t, g, "create table t (a int must, b text); insert into t values (1,'x'),(2,null);", 2)
	selects(t, g, "select a from t where b = 'x' or b is null order by a desc;", "2, 1")
	selects(t, g, "select a from t where not b = 'x';", "")
	refused(t, g, "insert into t values (3,'y'),(1,'z');", api.ErrTwice, 1)
	selects(t, g, "select a from t;", "1, 2")
}
