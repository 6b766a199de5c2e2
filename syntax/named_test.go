package syntax

import (
	"strings"
	"testing"

	"askance/api"
)

// wordsOfCommands are those that are no names.
const wordsOfCommands = "and by create delete desc drop from index insert int into is limit must not null on or order select set table text update values where"

func TestNamed(t *testing.T) {
	for _, s := range []string{"a", "z", "t", "ab", "frog", "abcdefgh", "zzzzzzzz", "aaaaaaaa"} {
		if !Named(s) {
			t.Errorf("%q is a name", s)
		}
	}
	for _, s := range []string{"", "abcdefghi", strings.Repeat("a", 1<<20), "A", "Ab", "aB", "a1", "1", "1a", "a_b", "_", "a b", " a", "a ", "a\n", "a.b", "'a'", "é", "a\x00", "\x00", "\xff", "*", "-"} {
		if Named(s) {
			t.Errorf("%q is no name", s)
		}
	}
}

func TestNamedLength(t *testing.T) {
	for n := range 300 {
		if Named(strings.Repeat("q", n)) != (1 <= n && n <= api.MaxName) {
			t.Errorf("%d letters", n)
		}
	}
}

func TestNamedBytes(t *testing.T) {
	for c := range 256 {
		want := 97 <= c && c <= 122
		one := string([]byte{byte(c)})
		for _, s := range []string{one, one + "bcdefgh", "abc" + one + "efgh", "abcdefg" + one} {
			if Named(s) != want {
				t.Errorf("byte %d in %q", c, s)
			}
		}
	}
}

func TestNamedButNotWordsOfCommands(t *testing.T) {
	l := strings.Fields(wordsOfCommands)
	if len(l) != 26 {
		t.Fatalf("%d words", len(l))
	}
	taken := map[string]bool{}
	for _, s := range l {
		taken[s] = true
	}
	for _, s := range l {
		if Named(s) {
			t.Errorf("%q is a word of commands", s)
		}
		for _, near := range []string{s + "x", "x" + s, s[1:], s[:len(s)-1]} {
			if near != "" && !taken[near] && !Named(near) {
				t.Errorf("%q is a name", near)
			}
		}
	}
}

// All names of up to three letters are ones, but for the words of commands.
func TestNamedShortOnes(t *testing.T) {
	taken := " " + wordsOfCommands + " "
	check := func(s string) {
		if Named(s) == strings.Contains(taken, " "+s+" ") {
			t.Errorf("%q", s)
		}
	}
	for a := 'a'; a <= 'z'; a++ {
		check(string(a))
		for b := 'a'; b <= 'z'; b++ {
			check(string([]rune{a, b}))
			for c := 'a'; c <= 'z'; c++ {
				check(string([]rune{a, b, c}))
			}
		}
	}
}

// Where a command has a name, each name will do and no word of commands will.
func TestNamesInCommands(t *testing.T) {
	for _, p := range []string{
		"create table @ (a int must);", "create table t (@ int must);", "create table t (a int, @ text);",
		"create index @ on t (a);", "create index i on @ (a);", "create index i on t (@);", "drop table @;",
		"insert into @ values (1);", "insert into t values (@.a);", "insert into t values (a.@);",
		"delete from @;", "delete from t where @.a;", "delete from t where a.@;",
		"update @ set a = 1;", "update t set @ = 1;", "update t set a = 1, @ = 2;",
		"select @.a from t;", "select a.@ from t;", "select * from @;", "select * from t, @;", "select * from t order by t.@;",
	} {
		takesNames(t, p)
		for _, s := range []string{"null", "1", "'a'", "*"} {
			refused(t, strings.ReplaceAll(p, "@", s))
		}
	}
}

// Where a name stands as an expression, null, a number or a text may, too.
func TestNamesAsExpressions(t *testing.T) {
	for _, p := range []string{
		"insert into t values (@);", "insert into t values (1, @);", "delete from t where @;", "update t set a = @;", "update t set a = 1 where @;",
		"select @ from t;", "select a, @ from t;", "select * from t where @;", "select * from t order by @;",
	} {
		takesNames(t, p)
		for _, s := range []string{"null", "1", "'a'"} {
			accepted(t, strings.ReplaceAll(p, "@", s))
		}
	}
}

func takesNames(t *testing.T, place string) {
	t.Helper()
	for _, s := range []string{"q", "abcdefgh", "nulls", "froms"} {
		accepted(t, strings.ReplaceAll(place, "@", s))
	}
	for _, s := range append(strings.Fields(wordsOfCommands), "abcdefghi", "(", ";", "", "q q", ".") {
		if s != "null" {
			refused(t, strings.ReplaceAll(place, "@", s))
		}
	}
}
