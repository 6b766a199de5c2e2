package engine

import (
	"strings"
	"testing"

	"askance/api"
)

// FuzzDo does scripts, a line each, and holds what comes of them against a model.
func FuzzDo(f *testing.F) {
	for _, s := range []string{
		"create table v (a int must); create index j on v (a); insert into v values (1),(2);\nselect * from u, v where n = v.a;\ndrop table v; select * from v;",
		"create index i on t (b); create index j on t (c);\nupdate t set b = 'z', a = a + 1 where c = 7 or b = 'x';\nselect a from t where b = 'z' order by c desc limit 2;",
		"delete from t where not b = 'x';\ninsert into t values (1,'q',1),(4,null,null);\nselect t.a, u.k from u, t where k < b order by n = a;",
		"insert into t values (null,'x',1);\ninsert into t values (3,'x',1);\ninsert into t values (1000000+1,'x',1);",
		"update u set k = 'x' where n = 2;\nupdate u set n = null;\nupdate u set n = n + 1, k = 'q' where k = '';\nselect n, k from u order by n desc;",
		"drop table t; create table t (a text must, b text must);\ninsert into t values ('x','y');\nselect a = b, a < b, a is null from t, u order by not a = k desc;",
		"?\n\nselect a from zz;\nselect a from t where a;",
	} {
		f.Add(s)
	}
	f.Fuzz(func(t *testing.T, source string) {
		g, m := New(), model{rows: map[string][][]api.Value{}}
		for _, s := range []string{
			"create table t (a int must, b text, c int); insert into t values (3,'x',7),(1,'y',null),(2,null,7),(-5,'x',0);",
			"create table u (k text must, n int must); insert into u values ('y',2),('x',1),('',2);",
		} {
			m, _ = likeModel(t, g, m, s)
		}
		for _, line := range strings.Split(source, "\n") {
			m, _ = likeModel(t, g, m, line)
		}
	})
}
