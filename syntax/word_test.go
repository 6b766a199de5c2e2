package syntax

import (
	"strings"
	"testing"

	"askance/api"
)

// Spaces may stand, or not, where a word ends anyhow.
func TestSpaces(t *testing.T) {
	words := strings.Fields("select a + 1 , - 2 , 'x' , t . b from t , u where ( a = 1 ) and not b < 2 or c is null order by a desc limit 7 ;")
	want, e := Script(strings.Join(words, " "))
	if e != api.OK {
		t.Fatal(e)
	}
	for _, space := range []string{" ", "\n", "  ", "\n\n", " \n "} {
		means(t, strings.Join(words, space), want...)
		means(t, space+strings.Join(words, space)+space, want...)
	}
	means(t, "select a+1,-2,'x',t.b from t,u where(a=1)and not b<2or c is null order by a desc limit 7;", want...)
	means(t, "select a+1,-2,'x'\n,t\n.\nb from t,u where(a=1)and not b<2or c is null order by a desc limit7;", want...)
}

// Two words that both are letters, or both digits, are one without a space
// between; a word with a space in it is two.
func TestWordsRunTogether(t *testing.T) {
	means(t, "select*from t;", api.Stmt{Kind: api.Select, From: []string{"t"}, N: -1})
	means(t, "select'x'from t limit3;", api.Stmt{Kind: api.Select, From: []string{"t"}, Out: []api.Expr{text("x")}, N: 3})
	means(t, "select 1from t;", api.Stmt{Kind: api.Select, From: []string{"t"}, Out: []api.Expr{number(1)}, N: -1})
	means(t, "delete from t where nota;", api.Stmt{Kind: api.Delete, Table: "t", Where: column("nota"), N: -1})
	means(t, "select * from t order by adesc;", api.Stmt{Kind: api.Select, From: []string{"t"}, Order: []api.Expr{column("adesc")}, N: -1})
	for _, s := range []string{"selecta from t;", "select * fromt;", "select * from twhere a;", "delete from t wherea;",
		"delete from t where a isnull;", "delete from t where a is nullor b;", "delete from t where a andb;", "droptable t;", "drop tablet;",
		"select * from t orderby a;", "create table t (aint);", "create table t (a intmust);", "insertinto t values (1);",
		"sel ect * from t;", "select 1 2 from t;", "select a b from t;", "drop ta ble t;", "drop table t t;", "select ' x from t;", "select 'x 'y' from t;",
		"select a1 from t;", "select 1a from t;", "drop table t1;", "drop table 1t;"} {
		refused(t, s)
	}
}

// Just these bytes may stand outside of texts, wherever they are.
func TestBytesThatAreNoWords(t *testing.T) {
	const good = "abcdefghijklmnopqrstuvwxyz0123456789'(),;.=<+-* \n"
	for c := range 256 {
		one := string([]byte{byte(c)})
		if !strings.Contains(good, one) {
			for _, s := range []string{one, one + "drop table t;", "drop table t;" + one, "drop" + one + "table t;", "drop " + one + " table t;", "drop table " + one + "t;", "select a" + one + " from t;", "select a " + one + " b from t;"} {
				refused(t, s)
			}
		}
		if between := accepts("drop" + one + "table t;"); between != (c == 32 || c == 10) {
			t.Errorf("byte %d as a space: %v", c, between)
		}
	}
}

func TestWordsAreOfSmallLetters(t *testing.T) {
	for _, s := range []string{"DROP table t;", "drop TABLE t;", "drop table T;", "Drop table t;", "select NULL from t;", "select a from t where NOT a;"} {
		refused(t, s)
	}
}

func TestTexts(t *testing.T) {
	for c := range 256 {
		one := string([]byte{byte(c)})
		s := "select 'a" + one + "b' from t;"
		if c < 32 || c > 126 || one == "'" {
			refused(t, s)
			continue
		}
		means(t, s, api.Stmt{Kind: api.Select, From: []string{"t"}, Out: []api.Expr{text("a" + one + "b")}, N: -1})
	}
	for n := range 40 {
		s := strings.Repeat("y", n)
		if n > api.MaxText {
			refused(t, "select '"+s+"' from t;")
			continue
		}
		means(t, "select '"+s+"' from t;", api.Stmt{Kind: api.Select, From: []string{"t"}, Out: []api.Expr{text(s)}, N: -1})
	}
	for _, s := range []string{"'", "select '", "select ' from t;", "select 'a from t;", "select 'a'' from t;", "select 'a''b' from t;", "select '''' from t;", "select 'a' 'b' from t;", "drop table 't';", "drop table t;'", "select \"a\" from t;"} {
		refused(t, s)
	}
	means(t, "select 'a;b','--','null' from t;", api.Stmt{Kind: api.Select, From: []string{"t"}, Out: []api.Expr{text("a;b"), text("--"), text("null")}, N: -1})
}

func TestNumbers(t *testing.T) {
	good := map[string]int{"0": 0, "1": 1, "9": 9, "10": 10, "100": 100, "42": 42, "999999": 999999, "1000000": 1000000}
	for s, n := range good {
		means(t, "select "+s+" from t limit "+s+";", api.Stmt{Kind: api.Select, From: []string{"t"}, Out: []api.Expr{number(n)}, N: n})
		means(t, "select -"+s+", - "+s+" from t;", api.Stmt{Kind: api.Select, From: []string{"t"}, Out: []api.Expr{number(-n), number(-n)}, N: -1})
	}
	for _, s := range []string{"00", "01", "007", "000000", "0000001", "1000001", "1000010", "9999999", "10000000", "00000000000000000001",
		"2147483648", "4294967296", "4294967297", "9223372036854775807", "9223372036854775808", "18446744073709551616", "18446744073709551617",
		strings.Repeat("9", 400), "0" + strings.Repeat("0", 400), "1 0", "1.0", "1.", ".1", "1e1", "1a", "+1", "- -1", "1-", "a1"} {
		refused(t, "select "+s+" from t;")
		refused(t, "select -"+s+" from t;")
		refused(t, "select * from t limit "+s+";")
	}
	for _, s := range []string{"-1", "- 1", "(1)", "null", "'1'", "a", "1 + 1", "1, 2", "", "*"} {
		refused(t, "select * from t limit "+s+";")
	}
	for _, s := range []string{"- a", "-(1)", "- null", "-'x'", "- t.a", "-", "+", "-not a", "- - 1", "+ 1"} {
		refused(t, "select "+s+" from t;")
	}
}

func TestNumbersAtTheirBound(t *testing.T) {
	for n := api.MaxNumber - 50; n <= api.MaxNumber+50; n++ {
		s := "select * from t limit " + decimal(n) + ";"
		if n > api.MaxNumber {
			refused(t, s)
			continue
		}
		means(t, s, api.Stmt{Kind: api.Select, From: []string{"t"}, N: n})
	}
}
