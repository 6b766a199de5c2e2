package schema

import (
	"testing"

	"askance/api"
	"askance/syntax"
)

// FuzzBind binds scripts, command by command, as the catalog is then.
func FuzzBind(f *testing.F) {
	for _, s := range []string{
		"create table v (a int must); create index j on v (a); drop table t; select * from u, v;",
		"insert into t values (1,'x'),(null,null); delete from t where a = 1; update t set a = a + 1, b = null where not b = 'x';",
		"select u.b, t.b from t, u where a = u.b and id = t.b order by a desc limit 5;",
		"select b from t, u; drop table v; update t set a = 1, a = 2;",
		"drop table u; drop table t; create table a (b text must, c int, d int must, e text); create index e on a (e); insert into a values ('', 1-2, 3, 'x');",
	} {
		f.Add(s)
	}
	f.Fuzz(func(t *testing.T, source string) {
		l, _ := syntax.Script(source)
		c := two()
		for _, s := range l {
			bound, e := Bind(c, s)
			if e != api.OK {
				checkRefused(t, bound, e)
				continue
			}
			again, e := Bind(c, bound)
			if e != api.OK || !same(again, bound) {
				t.Fatalf("%q: %+v, then %+v, %d", source, bound, again, e)
			}
			c = With(c, bound)
			if !Good(c) {
				t.Fatalf("%q: %+v", source, c)
			}
		}
	})
}

func checkRefused(t *testing.T, bound api.Stmt, e api.Errno) {
	t.Helper()
	if !same(bound, api.Stmt{}) {
		t.Fatalf("%+v with %d", bound, e)
	}
	switch e {
	case api.ErrForm, api.ErrNone, api.ErrTwice, api.ErrType, api.ErrFull:
		return
	}
	t.Fatalf("%d", e)
}
