package syntax

import (
	"strings"
	"testing"

	"askance/api"
)

// How tight what an operation makes holds together: what is looser than its
// place allows stands in brackets.
const (
	loose = iota
	andTight
	testTight
	sumTight
	atomTight
)

func tightness(e api.Expr) int {
	switch e.Op {
	case api.Lit, api.Ref:
		return atomTight
	case api.Plus, api.Minus:
		return sumTight
	case api.Eq, api.Lt, api.Not, api.Is:
		return testTight
	case api.And:
		return andTight
	}
	return loose
}

func written(e api.Expr, tight int) string {
	if tightness(e) < tight {
		return "(" + written(e, loose) + ")"
	}
	between := func(left int, sign string, right int) string {
		return written(e.L[0], left) + " " + sign + " " + written(e.L[1], right)
	}
	switch e.Op {
	case api.Plus:
		return between(sumTight, "+", atomTight)
	case api.Minus:
		return between(sumTight, "-", atomTight)
	case api.Eq:
		return between(sumTight, "=", sumTight)
	case api.Lt:
		return between(sumTight, "<", sumTight)
	case api.And:
		return between(andTight, "and", testTight)
	case api.Or:
		return between(loose, "or", andTight)
	case api.Not:
		return "not " + written(e.L[0], testTight)
	case api.Is:
		return written(e.L[0], sumTight) + " is null"
	}
	return writtenAtom(e)
}

func writtenAtom(e api.Expr) string {
	switch {
	case e.Op == api.Ref && e.S != "":
		return e.S + "." + e.Name
	case e.Op == api.Ref:
		return e.Name
	case e.V.Kind == api.Int:
		return decimal(e.V.N)
	case e.V.Kind == api.Text:
		return "'" + e.V.S + "'"
	}
	return "null"
}

func commas[T any](l []T, one func(T) string) string {
	var texts []string
	for _, x := range l {
		texts = append(texts, one(x))
	}
	return strings.Join(texts, ",")
}

func whole(e api.Expr) string { return written(e, loose) }

func writtenColumn(c api.Col) string {
	s := c.Name + []string{"", " int", " text"}[c.Type]
	if c.Must {
		s += " must"
	}
	return s
}

func behind(s api.Stmt) string {
	text := ""
	if s.Where.Op != 0 {
		text += " where " + whole(s.Where)
	}
	if len(s.Order) > 0 {
		text += " order by " + whole(s.Order[0])
	}
	if s.Down {
		text += " desc"
	}
	if s.N >= 0 {
		text += " limit " + decimal(s.N)
	}
	return text + ";"
}

func writtenCommand(s api.Stmt) string {
	switch s.Kind {
	case api.Create:
		return "create table " + s.Name + "(" + commas(s.Cols, writtenColumn) + ")" + behind(s)
	case api.Mark:
		return "create index " + s.Name + " on " + s.Table + "(" + s.Col + ")" + behind(s)
	case api.Drop:
		return "drop table " + s.Name + behind(s)
	case api.Insert:
		return "insert into " + s.Table + " values" + commas(s.Rows, func(l []api.Expr) string { return "(" + commas(l, whole) + ")" }) + behind(s)
	case api.Delete:
		return "delete from " + s.Table + behind(s)
	case api.Update:
		return "update " + s.Table + " set " + commas(s.Sets, func(x api.Set) string { return x.Col + "=" + whole(x.E) }) + behind(s)
	}
	out := "*"
	if len(s.Out) > 0 {
		out = commas(s.Out, whole)
	}
	return "select " + out + " from " + strings.Join(s.From, ",") + behind(s)
}

// What a text means, written anew, means the same.
func FuzzScript(f *testing.F) {
	f.Add("create table t (a int must, b text);create index i on t (b);drop table t;")
	f.Add("insert into t values (1,'x y'),(- 2, null);delete from t where ((a)) = (b is null);")
	f.Add("update t set a = a + 1 - b, b = 'z' where not a = 1 and t.b is null or (a < 3);")
	f.Add("select a, b = 'x' from t, u where a order by b desc limit 3;select * from t;")
	f.Add("select not (not (a or b) and c) , (((((1))))) from t;")
	for _, m := range meaning() {
		f.Add("select " + m.text + " from t;")
	}
	for _, s := range wrongs() {
		f.Add("delete from t where " + s + ";")
	}
	f.Fuzz(func(t *testing.T, text string) {
		l, e := Script(text)
		if e != api.OK {
			if len(l) != 0 || e != api.ErrForm && e != api.ErrLong || e == api.ErrLong && len(text) <= api.MaxSource && strings.Count(text, ";") <= api.MaxStmts {
				t.Errorf("%q: %+v, %d", text, l, e)
			}
			return
		}
		again := ""
		for _, s := range l {
			again += writtenCommand(s)
		}
		if len(again) <= api.MaxSource {
			means(t, again, l...)
		}
	})
}
