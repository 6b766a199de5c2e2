package syntax

import (
	"fmt"
	"strings"
	"testing"

	"askance/api"
)

func accepts(text string) bool {
	_, e := Script(text)
	return e == api.OK
}

func accepted(t *testing.T, text string) {
	t.Helper()
	if l, e := Script(text); e != api.OK {
		t.Errorf("%.200q, %d bytes: %d commands, %d", text, len(text), len(l), e)
	}
}

func answers(t *testing.T, text string, want api.Errno) {
	t.Helper()
	if l, e := Script(text); e != want || len(l) != 0 {
		t.Errorf("%.200q, %d bytes: %d commands, %d, not %d", text, len(text), len(l), e, want)
	}
}

func refused(t *testing.T, text string) {
	t.Helper()
	answers(t, text, api.ErrForm)
}

// told is a thing with all that is in it; lists without elements are told
// alike, nil or not.
func told(x any) string {
	return strings.ReplaceAll(fmt.Sprintf("%#v", x), "(nil)", "{}")
}

func means(t *testing.T, text string, want ...api.Stmt) {
	t.Helper()
	l, e := Script(text)
	if e != api.OK || told(l) != told(want) {
		t.Errorf("%.200q: %.2000s, %d, not %.2000s", text, told(l), e, told(want))
	}
}

func TestScriptOfNoCommands(t *testing.T) {
	for _, s := range []string{"", " ", "\n", " \n \n\n ", strings.Repeat(" ", api.MaxSource)} {
		means(t, s)
	}
}

func TestScriptEndsEachCommand(t *testing.T) {
	drop := api.Stmt{Kind: api.Drop, Name: "t", N: -1}
	means(t, "drop table t;", drop)
	means(t, "drop table t;drop table t;", drop, drop)
	means(t, " drop table t ; \n drop table t ; ", drop, drop)
	for _, s := range []string{";", " ; ", "drop table t", "drop table t;;", ";drop table t;", "drop table t; drop table t",
		"drop table t drop table t;", "drop table t;drop", "drop table t,drop table t;", "drop table t; ;", "drop table t;x;", "drop table t;;drop table t;"} {
		refused(t, s)
	}
}

func TestScriptOfManyCommands(t *testing.T) {
	const one = "drop table t;"
	for n := range 60 {
		text := strings.Repeat(one, n)
		l, e := Script(text)
		switch {
		case n <= api.MaxStmts && (e != api.OK || len(l) != n):
			t.Errorf("%d commands: %+v, %d", n, l, e)
		case n > api.MaxStmts:
			answers(t, text, api.ErrLong)
		}
		for _, wrong := range []string{";", "x", "drop", "#", "'", "drop table t"} {
			refused(t, text+wrong)
			refused(t, wrong+" "+text)
		}
	}
}

func TestScriptOfManyBytes(t *testing.T) {
	const one = "drop table t;"
	room := api.MaxSource - len(one)
	accepted(t, one+strings.Repeat(" ", room))
	accepted(t, strings.Repeat("\n", room)+one)
	accepted(t, strings.Repeat(" ", api.MaxSource))
	refused(t, one+strings.Repeat(" ", room-1)+"#")
	refused(t, strings.Repeat("\x00", api.MaxSource))
	answers(t, one+strings.Repeat(" ", room+1), api.ErrLong)
	answers(t, one+strings.Repeat(" ", room)+"#", api.ErrLong)
	answers(t, strings.Repeat(" ", api.MaxSource+1), api.ErrLong)
	answers(t, strings.Repeat("\x00", api.MaxSource+1), api.ErrLong)
	answers(t, strings.Repeat("(", 1<<20), api.ErrLong)
	answers(t, strings.Repeat(one, 1000), api.ErrLong)
}

// Long runs of one word are as long as a text may be.
func TestScriptEndsOnLongRuns(t *testing.T) {
	for _, word := range []string{"(", ")", "not ", "'", "''", "-", "+", "a", "a ", "1", "1 ", "0", ",", ";", ".", "=", "a.", "a+", "a,", "a and ", "a or ", "is null ", "is ", "(a", "not(", "where "} {
		run := strings.Repeat(word, (api.MaxSource-len("select * from t where "))/len(word))
		for _, text := range []string{run, "select " + run, "select " + run + " from t;", "select * from t where " + run, "select * from " + run, "update t set " + run, "insert into t values " + run, "create table t (" + run} {
			refused(t, text)
		}
	}
	accepted(t, "select a"+strings.Repeat("-1", 740)+" from t;")
	accepted(t, "select a"+strings.Repeat(",a", 740)+" from t;")
	accepted(t, "select * from t"+strings.Repeat(",t", 740)+";")
	accepted(t, "insert into t values (1)"+strings.Repeat(",(1)", 360)+";")
}

// A script that is cut short is not of the form, but between its commands.
func TestScriptCutShort(t *testing.T) {
	const text = "create table t (a int must, b text);create index i on t (b);insert into t values (1,'x'),(- 2,null);update t set a = a + 1, b = 'z' where not t.a < 1;select a from t, u where a order by b desc limit 3;delete from t where a is null;"
	ends := 0
	for n := range len(text) + 1 {
		part := text[:n]
		if n > 0 && !strings.HasSuffix(part, ";") {
			refused(t, part)
			continue
		}
		l, e := Script(part)
		if e != api.OK || len(l) != ends {
			t.Errorf("%q: %+v, %d", part, l, e)
		}
		ends++
	}
	if ends != 7 {
		t.Errorf("%d ends", ends)
	}
}

// Each list of an answer is there for itself: a change in one is seen nowhere
// else.
func TestScriptAnswersListsApart(t *testing.T) {
	const text = "insert into t values (1 + 2, 3),(4, 5 - 6 + 7);select a and b, c from t, u order by d < e;"
	l, _ := Script(text)
	for i := range l {
		for k := range l[i].Rows {
			l[i].Rows[k] = append(l[i].Rows[k], api.Expr{Op: 99})
		}
		l[i].Out = append(l[i].Out, api.Expr{Op: 98})
		l[i].From = append(l[i].From, "z")
	}
	s := told(l)
	if strings.Count(s, "Op:99") != 2 || strings.Count(s, "Op:98") != 2 {
		t.Error(s)
	}
	again, e := Script(text)
	if e != api.OK || strings.Contains(told(again), "Op:9") {
		t.Errorf("%s, %d", told(again), e)
	}
}
