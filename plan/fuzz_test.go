package plan

import (
	"testing"

	"askance/api"
	"askance/schema"
	"askance/syntax"
)

// checkText holds ways by conditions of a text against looking at all rows.
func checkText(t *testing.T, source string) {
	t.Helper()
	for _, c := range catalogs() {
		tr := filled(c)
		for i, from := range []string{"t", "t, u", "u, t", "u, t", "t, u"} {
			l, _ := syntax.Script("select * from " + from + " where " + source + ";")
			for _, s := range l {
				if b, no := schema.Bind(c, s); no == api.OK && b.Kind == api.Select && len(l) == 1 {
					finds(t, c, tr, joins()[i], b.Where)
				}
			}
		}
	}
}

// FuzzChoose looks for rows that a way does not lead to.
func FuzzChoose(f *testing.F) {
	for _, s := range []string{
		"a = 3", "3 = a", "a < 5", "5 < a", "b = 'x'", "b = 'y'", "b = null", "a = null", "b = 'x' and a < 4", "b = 'x' or a = 9", "not b = 'x'",
		"b is null", "a + 1 = 4", "a = 3 and a = 5", "null", "not null", "b = id and c = n", "t.a = 3 or u.n < 0", "not (a < 3 or 3 < a) and id = 'x'",
		"not (b is null or not id = b)", "(a = 3) is null", "not (a = 3) is null", "a = a and n = 3", "'x' < b and b < 'xx' or c is null and not c = 1",
		"n = 0 - 1000000 or n = -1000000", "id < 'x' and not id < ''", "a < -1 or a = 256",
	} {
		f.Add(s)
	}
	f.Fuzz(checkText)
}
