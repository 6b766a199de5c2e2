package syntax

import (
	"strconv"
	"strings"
	"testing"

	"askance/api"
)

func decimal(n int) string { return strconv.Itoa(n) }

func number(n int) api.Expr {
	return api.Expr{Op: api.Lit, V: api.Value{Kind: api.Int, N: n}}
}

func text(s string) api.Expr {
	return api.Expr{Op: api.Lit, V: api.Value{Kind: api.Text, S: s}}
}

func nothing() api.Expr { return api.Expr{Op: api.Lit} }

func column(name string) api.Expr { return api.Expr{Op: api.Ref, Name: name} }

func columnOf(table, name string) api.Expr { return api.Expr{Op: api.Ref, S: table, Name: name} }

func of(op int, args ...api.Expr) api.Expr { return api.Expr{Op: op, L: args} }

// meaning are expressions as text, and what they mean.
func meaning() []struct {
	text string
	want api.Expr
} {
	a, b, c, d := column("a"), column("b"), column("c"), column("d")
	return []struct {
		text string
		want api.Expr
	}{
		{"null", nothing()}, {"7", number(7)}, {"- 7", number(-7)}, {"-0", number(0)}, {"'x y'", text("x y")}, {"''", text("")},
		{"a", a}, {"t.a", columnOf("t", "a")}, {"t . a", columnOf("t", "a")}, {"(a)", a}, {"((a))", a}, {"(t.a)", columnOf("t", "a")},
		{"a + b", of(api.Plus, a, b)}, {"a - b", of(api.Minus, a, b)}, {"a + b - c + d", of(api.Plus, of(api.Minus, of(api.Plus, a, b), c), d)},
		{"a - b - c", of(api.Minus, of(api.Minus, a, b), c)}, {"a - (b - c)", of(api.Minus, a, of(api.Minus, b, c))},
		{"a -1", of(api.Minus, a, number(1))}, {"a - -1", of(api.Minus, a, number(-1))}, {"a--1", of(api.Minus, a, number(-1))}, {"a+-1", of(api.Plus, a, number(-1))},
		{"-1-1", of(api.Minus, number(-1), number(1))}, {"-1 - - 2", of(api.Minus, number(-1), number(-2))}, {"null + 'x'", of(api.Plus, nothing(), text("x"))},
		{"a = b", of(api.Eq, a, b)}, {"a < b", of(api.Lt, a, b)}, {"a is null", of(api.Is, a)}, {"null is null", of(api.Is, nothing())},
		{"a + b = c - d", of(api.Eq, of(api.Plus, a, b), of(api.Minus, c, d))}, {"a < b + c", of(api.Lt, a, of(api.Plus, b, c))},
		{"a + b is null", of(api.Is, of(api.Plus, a, b))}, {"(a = b) = c", of(api.Eq, of(api.Eq, a, b), c)}, {"a = (b = c)", of(api.Eq, a, of(api.Eq, b, c))},
		{"(a is null) is null", of(api.Is, of(api.Is, a))}, {"(a = b) + c", of(api.Plus, of(api.Eq, a, b), c)}, {"a = null", of(api.Eq, a, nothing())},
		{"not a", of(api.Not, a)}, {"not not a", of(api.Not, of(api.Not, a))}, {"not a = b", of(api.Not, of(api.Eq, a, b))}, {"not a is null", of(api.Not, of(api.Is, a))},
		{"(not a) = b", of(api.Eq, of(api.Not, a), b)}, {"not (a)", of(api.Not, a)}, {"not a + b", of(api.Not, of(api.Plus, a, b))}, {"(not a) is null", of(api.Is, of(api.Not, a))},
		{"a and b", of(api.And, a, b)}, {"a or b", of(api.Or, a, b)}, {"a and b and c", of(api.And, of(api.And, a, b), c)}, {"a or b or c", of(api.Or, of(api.Or, a, b), c)},
		{"a and b or c", of(api.Or, of(api.And, a, b), c)}, {"a or b and c", of(api.Or, a, of(api.And, b, c))}, {"a and b or c and d", of(api.Or, of(api.And, a, b), of(api.And, c, d))},
		{"a or b and c or d", of(api.Or, of(api.Or, a, of(api.And, b, c)), d)}, {"a and (b or c)", of(api.And, a, of(api.Or, b, c))}, {"(a or b) and c", of(api.And, of(api.Or, a, b), c)},
		{"a and (b and c)", of(api.And, a, of(api.And, b, c))}, {"a or (b or c)", of(api.Or, a, of(api.Or, b, c))},
		{"not a and b", of(api.And, of(api.Not, a), b)}, {"a and not b", of(api.And, a, of(api.Not, b))}, {"not a or not b", of(api.Or, of(api.Not, a), of(api.Not, b))},
		{"not (a and b)", of(api.Not, of(api.And, a, b))}, {"a = b and c < d", of(api.And, of(api.Eq, a, b), of(api.Lt, c, d))}, {"(a and b) + c", of(api.Plus, of(api.And, a, b), c)},
		{"a is null or b", of(api.Or, of(api.Is, a), b)},
	}
}

// wrongs are no expressions.
func wrongs() []string {
	return []string{
		"()", "(", ")", "(a", "a)", "((a)", "(a))", "(a, b)", "a b", "a 1", "1 a", "'x' 'y'", "a (b)", "(a)(b)",
		"+", "a +", "+ a", "a + + b", "a + - b", "- a", "- - 1", "a -", "a + = b", "a * b", "*", "a.*",
		"=", "a =", "= a", "a = b = c", "a < b < c", "a < b = c", "a = = b", "a < = b", "a <", "< a", "a = b is null", "a is null = b", "a = not b", "a + not b", "a + b = not c",
		"is null", "a is", "a is a", "a is not null", "a is null null", "a is null is null", "a is (null)", "is",
		"not", "a not", "a not b", "not not", "not = a", "not and a", "(not) a",
		"and", "a and", "and a", "a and and b", "or", "a or", "or a", "a or or b", "a and or b", "a or and b",
		"a.", ".a", ".", "a..b", "a.b.c", "a.1", "1.a", "a.null", "null.a", "'a'.b", "a.'b'", "(a).b", "a.(b)", "a.not", "where", "from", "int", "desc", "values", "abcdefghi",
	}
}

func TestExpressions(t *testing.T) {
	for _, m := range meaning() {
		means(t, "select "+m.text+" from t;", api.Stmt{Kind: api.Select, From: []string{"t"}, Out: []api.Expr{m.want}, N: -1})
		means(t, "select "+m.text+","+m.text+" from t;", api.Stmt{Kind: api.Select, From: []string{"t"}, Out: []api.Expr{m.want, m.want}, N: -1})
		means(t, "insert into t values ("+m.text+"),(a,"+m.text+");", api.Stmt{Kind: api.Insert, Table: "t", Rows: [][]api.Expr{{m.want}, {column("a"), m.want}}, N: -1})
		means(t, "delete from t where "+m.text+";", api.Stmt{Kind: api.Delete, Table: "t", Where: m.want, N: -1})
		means(t, "update t set a = "+m.text+", b="+m.text+" where "+m.text+";", api.Stmt{Kind: api.Update, Table: "t", Sets: []api.Set{{Col: "a", E: m.want}, {Col: "b", E: m.want}}, Where: m.want, N: -1})
		means(t, "select * from t where "+m.text+" order by "+m.text+" desc limit 1;", api.Stmt{Kind: api.Select, From: []string{"t"}, Where: m.want, Order: []api.Expr{m.want}, Down: true, N: 1})
	}
}

func TestWhatIsNoExpression(t *testing.T) {
	for _, s := range append(wrongs(), "") {
		if s != "*" {
			refused(t, "select "+s+" from t;")
		}
		refused(t, "select a, "+s+" from t;")
		refused(t, "insert into t values ("+s+");")
		refused(t, "delete from t where "+s+";")
		refused(t, "update t set a = "+s+";")
		refused(t, "select * from t where "+s+";")
		if s != "" {
			refused(t, "select (a = "+s+") from t;")
		}
		refused(t, "select * from t order by "+s+";")
	}
}

// around are ways to put something within one bracket or `not`; every way may
// stand within every other one.
func around() [][2]string {
	return [][2]string{{"(", ")"}, {"not ", ""}, {"not (", ")"}, {"(a + ", ")"}, {"(", " and b)"}, {"(1 = 2 or ", ")"}}
}

// depths are how many brackets and nots each of these is.
func depths() []int { return []int{1, 1, 2, 1, 1, 1} }

func deep(t *testing.T, s string, depth int) {
	t.Helper()
	for _, command := range []string{"select @ from t;", "delete from t where @;", "insert into t values (@);", "update t set a = @;", "select * from t order by @;", "select a, @, (b) from t;", "create table t (a int);insert into t values (1, (2), @),(@);"} {
		script := strings.ReplaceAll(command, "@", s)
		if depth <= 5 {
			accepted(t, script)
		} else {
			refused(t, script)
		}
	}
}

func TestDepthOfEveryMixture(t *testing.T) {
	var wrap func(s string, depth, left int)
	wrap = func(s string, depth, left int) {
		deep(t, s, depth)
		if left == 0 {
			return
		}
		for i, w := range around() {
			if strings.HasPrefix(s, "not") && w[0] == "(a + " {
				continue // a sum has no test without brackets
			}
			wrap(w[0]+s+w[1], depth+depths()[i], left-1)
		}
	}
	for _, atom := range []string{"a", "1", "null", "'x'", "- 1", "t.a", "a"} {
		wrap(atom, 0, 3)
	}
	for _, test := range []string{"a", "b is null"} {
		wrap("("+test+")", 1, 5)
	}
}

// Brackets side by side, or a `not` that is over, do not count together.
func TestDepthSideBySide(t *testing.T) {
	five, six := "(((((a)))))", "((((((a))))))"
	nots := strings.Repeat("not ", 5) + "a"
	for _, s := range []string{five + "+" + five, five + "=" + five, five + " and " + five + " or " + five, nots + " and " + nots, nots + " or " + five, five + " is null", "not a and " + five, "not a or " + nots} {
		deep(t, s, 5)
		deep(t, "("+s+")", 6)
	}
	for _, s := range []string{five + "+" + six, six + "=" + five, five + " and " + six, nots + " and not " + nots, six + " is null", "not " + five, "(" + nots + ")", "not (((((a)))))", "not a and " + six, strings.Repeat("(", 300) + "a" + strings.Repeat(")", 300), strings.Repeat("not ", 150) + "a"} {
		deep(t, s, 6)
	}
}
