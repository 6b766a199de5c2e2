package engine

import (
	"fmt"
	"reflect"
	"strings"
	"testing"

	"askance/api"
	"askance/tree"
)

func num(n int) api.Value { return api.Value{Kind: api.Int, N: n} }

func str(s string) api.Value { return api.Value{Kind: api.Text, S: s} }

func truth(n int) api.Value { return api.Value{Kind: api.Truth, N: n} }

func do(g *Engine, source string) api.Reply { return g.Do(api.Act{Text: source}) }

// sameReply is whether two replies are alike; lists without elements are.
func sameReply(a, b api.Reply) bool {
	if len(a.Rows) == 0 && len(b.Rows) == 0 {
		a.Rows, b.Rows = nil, nil
	}
	return reflect.DeepEqual(a, b)
}

// wants wants a reply of a script.
func wants(t *testing.T, g *Engine, source string, want api.Reply) {
	t.Helper()
	if got := do(g, source); !sameReply(got, want) {
		t.Errorf("%s: %+v; wanted %+v", source, got, want)
	}
}

// counts wants scripts to change some rows.
func counts(t *testing.T, g *Engine, source string, n int) {
	t.Helper()
	wants(t, g, source, api.Reply{N: n})
}

// refused wants an error of a command, and all as it was.
func refused(t *testing.T, g *Engine, source string, e api.Errno, n int) {
	t.Helper()
	catalog, tr := g.Catalog(), g.Tree()
	wants(t, g, source, api.Reply{Code: e, N: n})
	if !sameCatalog(catalog, g.Catalog()) || !reflect.DeepEqual(content(t, tr), content(t, g.Tree())) {
		t.Errorf("%s: %+v, %q; was %+v, %q", source, g.Catalog(), g.Tree(), catalog, tr)
	}
}

// selects wants rows, told as by told.
func selects(t *testing.T, g *Engine, source string, want string) {
	t.Helper()
	r := do(g, source)
	if r.Code != api.OK || r.N != 0 || told(r.Rows) != want {
		t.Errorf("%s: %d, %d, %q; wanted %q", source, r.Code, r.N, told(r.Rows), want)
	}
}

// told is rows as a text: a blank between values, a comma between rows.
func told(rows [][]api.Value) string {
	var l []string
	for _, row := range rows {
		var values []string
		for _, v := range row {
			values = append(values, toldValue(v))
		}
		l = append(l, strings.Join(values, " "))
	}
	return strings.Join(l, ", ")
}

func toldValue(v api.Value) string {
	switch {
	case v == api.Value{}:
		return "-"
	case v == num(v.N):
		return fmt.Sprint(v.N)
	case v == str(v.S):
		return "'" + v.S + "'"
	case v == truth(0):
		return "no"
	case v == truth(1):
		return "yes"
	}
	return fmt.Sprintf("%+v", v)
}

func sameCatalog(a, b api.Catalog) bool {
	return fmt.Sprintf("%+v", a) == fmt.Sprintf("%+v", b)
}

// content is a good tree as a map.
func content(t *testing.T, tr api.Tree) map[string]string {
	t.Helper()
	if !tree.Good(tr) {
		t.Fatalf("not good: %q", tr)
	}
	l := map[string]string{}
	for _, p := range tr.Pages {
		for i, key := range p.Keys {
			l[key] = p.Vals[i]
		}
	}
	return l
}

// coded is good values as a key, worked out another way.
func coded(l ...api.Value) string {
	s := ""
	for _, v := range l {
		s += string([]byte{byte(v.Kind) + 1})
		switch v.Kind {
		case api.Int:
			n := v.N + 1073741824
			s += string([]byte{byte(n / 16777216), byte(n / 65536 % 256), byte(n / 256 % 256), byte(n % 256)})
		case api.Text:
			s += v.S + "\x00"
		}
	}
	return s
}

// made is an engine to which scripts were done without an error.
func made(t *testing.T, scripts ...string) *Engine {
	t.Helper()
	g := New()
	for _, s := range scripts {
		if r := do(g, s); r.Code != api.OK {
			t.Fatalf("%s: %+v", s, r)
		}
	}
	return g
}

// two is an engine with two tables that have something in common.
func two(t *testing.T) *Engine {
	t.Helper()
	return made(t,
		"create table t (a int must, b text, c int); insert into t values (3,'x',7),(1,'y',null),(2,null,7),(-5,'x',0);",
		"create table u (k text must, n int must); insert into u values ('y',2),('x',1),('',2);")
}
