package engine

import (
	"fmt"
	"maps"
	"reflect"
	"slices"
	"sort"
	"strings"
	"testing"

	"askance/api"
	"askance/eval"
	"askance/schema"
	"askance/syntax"
)

// model is a database that keeps rows as lists, and looks at all of them.
type model struct {
	catalog api.Catalog
	rows    map[string][][]api.Value
	acts    int
}

func (m model) copied() model {
	return model{
		catalog: api.Catalog{Tables: slices.Clone(m.catalog.Tables), Indexes: slices.Clone(m.catalog.Indexes)},
		rows:    maps.Clone(m.rows), acts: m.acts,
	}
}

// tree is what there must be in a tree.
func (m model) tree() map[string]string {
	l := map[string]string{}
	for _, t := range m.catalog.Tables {
		for _, r := range m.rows[t.Name] {
			l["r"+t.Name+"\x00"+coded(r[0])] = coded(r...)
			for _, x := range m.catalog.Indexes {
				for i, col := range t.Cols {
					if x.Table == t.Name && x.Col == col.Name {
						l["x"+x.Name+"\x00"+coded(r[i], r[0])] = ""
					}
				}
			}
		}
	}
	return l
}

// do is the model behind a script, and the reply.
func (m model) do(source string) (model, api.Reply) {
	if m.acts == 150 {
		return m, api.Reply{Code: api.ErrFull}
	}
	m.acts++
	script, e := syntax.Script(source)
	if e != api.OK {
		return m, api.Reply{Code: e}
	}
	next := m.copied()
	last := api.Reply{}
	for i, s := range script {
		bound, e := schema.Bind(next.catalog, s)
		if e != api.OK {
			return m, api.Reply{Code: e, N: i + 1}
		}
		if last = next.one(bound); last.Code != api.OK {
			return m, api.Reply{Code: last.Code, N: i + 1}
		}
	}
	return next, last
}

func (m model) of(name string) api.Table {
	for _, t := range m.catalog.Tables {
		if t.Name == name {
			return t
		}
	}
	return api.Table{}
}

func (m *model) one(s api.Stmt) api.Reply {
	switch s.Kind {
	case api.Create:
		m.catalog.Tables = append(m.catalog.Tables, api.Table{Name: s.Name, Cols: s.Cols})
		sort.Slice(m.catalog.Tables, func(i, k int) bool { return m.catalog.Tables[i].Name < m.catalog.Tables[k].Name })
	case api.Mark:
		m.catalog.Indexes = append(m.catalog.Indexes, api.Index{Name: s.Name, Table: s.Table, Col: s.Col})
		sort.Slice(m.catalog.Indexes, func(i, k int) bool { return m.catalog.Indexes[i].Name < m.catalog.Indexes[k].Name })
	case api.Drop:
		m.catalog.Tables = slices.DeleteFunc(m.catalog.Tables, func(t api.Table) bool { return t.Name == s.Name })
		m.catalog.Indexes = slices.DeleteFunc(m.catalog.Indexes, func(x api.Index) bool { return x.Table == s.Name })
		delete(m.rows, s.Name)
	case api.Insert:
		for _, l := range s.Rows {
			if e := m.put(s.Table, comeTo(l, nil)); e != api.OK {
				return api.Reply{Code: e}
			}
		}
		return api.Reply{N: len(s.Rows)}
	case api.Delete, api.Update:
		return m.change(s)
	case api.Select:
		return api.Reply{Rows: m.find(s)}
	}
	return api.Reply{}
}

// comeTo is what expressions come to.
func comeTo(l []api.Expr, row []api.Value) []api.Value {
	values := make([]api.Value, len(l))
	for i, e := range l {
		values[i] = eval.Eval(e, row)
	}
	return values
}

// put keeps rows by their first values.
func (m *model) put(table string, row []api.Value) api.Errno {
	t := m.of(table)
	for i, v := range row {
		if v.Kind == api.Null && t.Cols[i].Must {
			return api.ErrNull
		}
	}
	rows := slices.Clone(m.rows[table])
	for _, r := range rows {
		if r[0] == row[0] {
			return api.ErrTwice
		}
	}
	if len(rows) == 30 {
		return api.ErrFull
	}
	rows = append(rows, row)
	sort.Slice(rows, func(i, k int) bool { return coded(rows[i][0]) < coded(rows[k][0]) })
	m.rows[table] = rows
	return api.OK
}

func yes(e api.Expr, row []api.Value) bool {
	return e.Op == 0 || eval.Eval(e, row) == truth(1)
}

func (m *model) change(s api.Stmt) api.Reply {
	var gone, stay [][]api.Value
	for _, r := range m.rows[s.Table] {
		if yes(s.Where, r) {
			gone = append(gone, r)
		} else {
			stay = append(stay, r)
		}
	}
	m.rows[s.Table] = stay
	if s.Kind == api.Delete {
		return api.Reply{N: len(gone)}
	}
	for _, r := range gone {
		next := slices.Clone(r)
		for i, col := range m.of(s.Table).Cols {
			for _, set := range s.Sets {
				if set.Col == col.Name {
					next[i] = eval.Eval(set.E, r)
				}
			}
		}
		if e := m.put(s.Table, next); e != api.OK {
			return api.Reply{Code: e}
		}
	}
	return api.Reply{N: len(gone)}
}

// find looks at each row, in order, and puts it behind all that are not behind it.
func (m *model) find(s api.Stmt) [][]api.Value {
	second := [][]api.Value{nil}
	if len(s.From) == 2 {
		second = m.rows[s.From[1]]
	}
	var rows, by [][]api.Value
	for _, a := range m.rows[s.From[0]] {
		for _, b := range second {
			row := slices.Concat(a, b)
			if !yes(s.Where, row) {
				continue
			}
			key := comeTo(s.Order, row)
			at := len(by)
			for at > 0 && (!s.Down && less(key, by[at-1]) || s.Down && less(by[at-1], key)) {
				at--
			}
			by, rows = slices.Insert(by, at, key), slices.Insert(rows, at, comeTo(s.Out, row))
		}
	}
	if 0 <= s.N && s.N < len(rows) {
		rows = rows[:s.N]
	}
	return rows
}

// less is of lists of no value, or of one.
func less(a, b []api.Value) bool {
	if len(a) == 0 {
		return false
	}
	x, y := a[0], b[0]
	switch {
	case x.Kind != y.Kind:
		return x.Kind < y.Kind
	case x.N != y.N:
		return x.N < y.N
	}
	return x.S < y.S
}

// likeModel wants an engine and a model to answer alike, and to have the same
// then; it answers the model then.
func likeModel(t *testing.T, g *Engine, m model, source string) (model, api.Reply) {
	t.Helper()
	next, want := m.do(source)
	if got := do(g, source); !sameReply(got, want) {
		t.Fatalf("%s: %+v; wanted %+v", source, got, want)
	}
	if got := g.Catalog(); !sameCatalog(got, next.catalog) || !schema.Good(got) {
		t.Fatalf("%s: %+v; wanted %+v", source, got, next.catalog)
	}
	if got := content(t, g.Tree()); !reflect.DeepEqual(got, next.tree()) {
		t.Fatalf("%s: %q; wanted %q", source, got, next.tree())
	}
	return next, want
}

// mixer makes numbers that look as if by chance, the same ones each time.
type mixer uint64

func (x *mixer) below(n int) int {
	*x = *x*6364136223846793005 + 1442695040888963407
	return int(uint64(*x) >> 33 % uint64(n))
}

func (x *mixer) of(l ...string) string { return l[x.below(len(l))] }

// writer writes scripts of what there is, and now and then of what there isn't.
type writer struct {
	x *mixer
	c api.Catalog
}

func (w writer) table() string {
	if len(w.c.Tables) == 0 || w.x.below(60) == 0 {
		return w.x.of("t", "u", "v", "w")
	}
	return w.c.Tables[w.x.below(len(w.c.Tables))].Name
}

func (w writer) cols(table string) []api.Col {
	t, _ := schema.FindTable(w.c, table)
	return t.Cols
}

// value is of a type, mostly.
func (w writer) value(kind int) string {
	switch n := w.x.below(20); {
	case n == 0:
		return "null"
	case kind == api.Int && n < 3:
		return w.x.of("1000000", "-1000000")
	case kind == api.Int:
		return fmt.Sprint(w.x.below(12) - 3)
	}
	return "'" + w.x.of("", "x", "y", "xx", "z", "~", "X", "abcdefgh") + "'"
}

// sum is an expression of a type, of columns of tables.
func (w writer) sum(kind int, tables []string) string {
	var names []string
	for _, table := range tables {
		for _, c := range w.cols(table) {
			if c.Type == kind && w.x.below(3) > 0 {
				names = append(names, table+"."+c.Name)
			} else if c.Type == kind && len(tables) == 1 {
				names = append(names, c.Name)
			}
		}
	}
	if len(names) == 0 || w.x.below(4) == 0 {
		return w.value(kind)
	}
	name := w.x.of(names...)
	if kind == api.Int && w.x.below(4) == 0 {
		return name + w.x.of(" + ", " - ") + w.sum(kind, tables)
	}
	return name
}

func (w writer) test(depth int, tables []string) string {
	kind := 1 + w.x.below(2)
	switch n := w.x.below(12); {
	case n < 2 && depth > 0:
		return "not (" + w.test(depth-1, tables) + ")"
	case n < 5 && depth > 0:
		return w.test(depth-1, tables) + w.x.of(" and ", " or ") + w.test(depth-1, tables)
	case n == 5:
		return w.sum(kind, tables) + " is null"
	case n == 6:
		return "not " + w.sum(kind, tables) + " is null"
	}
	return w.sum(kind, tables) + w.x.of(" = ", " < ") + w.sum(kind, tables)
}

func (w writer) where(tables ...string) string {
	if w.x.below(4) == 0 {
		return ""
	}
	return " where " + w.test(2, tables)
}

func (w writer) create() string {
	var l []string
	for i := range 1 + w.x.below(4) {
		col := w.x.of("a", "b", "c", "d", "e")
		if w.x.below(20) > 0 {
			col = string([]byte{byte('a' + i)})
		}
		col += w.x.of(" int", " text")
		if i == 0 && w.x.below(20) > 0 || w.x.below(5) == 0 {
			col += " must"
		}
		l = append(l, col)
	}
	return "create table " + w.x.of("t", "u", "v", "w") + " (" + strings.Join(l, ", ") + ")"
}

func (w writer) mark() string {
	table := w.table()
	col := w.x.of("a", "b")
	if l := w.cols(table); len(l) > 0 {
		col = l[w.x.below(len(l))].Name
	}
	return "create index " + w.x.of("i", "j", "t", "u", "ii") + " on " + table + " (" + col + ")"
}

func (w writer) insert() string {
	table := w.table()
	var rows []string
	for range 1 + w.x.below(4) {
		var l []string
		for i, c := range w.cols(table) {
			switch {
			case i == 0 && c.Type == api.Int && w.x.below(9) > 0:
				l = append(l, fmt.Sprint(w.x.below(300)-100))
			case i == 0 && c.Type == api.Text && w.x.below(9) > 0:
				l = append(l, fmt.Sprintf("'%s%d'", w.x.of("x", "y", "", "z"), w.x.below(100)))
			default:
				l = append(l, w.value(c.Type))
			}
		}
		if len(l) == 0 || w.x.below(40) == 0 {
			l = append(l, "1")
		}
		rows = append(rows, "("+strings.Join(l, ", ")+")")
	}
	return "insert into " + table + " values " + strings.Join(rows, ", ")
}

func (w writer) update() string {
	table := w.table()
	var l []string
	for i, c := range w.cols(table) {
		if w.x.below(3) == 0 && (i > 0 || w.x.below(3) == 0) {
			l = append(l, c.Name+" = "+w.sum(c.Type, []string{table}))
		}
	}
	if len(l) == 0 {
		l = append(l, "a = a")
	}
	return "update " + table + " set " + strings.Join(l, ", ") + w.where(table)
}

func (w writer) search() string {
	from := []string{w.table()}
	if other := w.table(); w.x.below(2) == 0 && (other != from[0] || w.x.below(10) == 0) {
		from = append(from, other)
	}
	out := "*"
	if w.x.below(2) == 0 {
		out = w.sum(1+w.x.below(2), from) + ", " + w.test(1, from)
	}
	s := "select " + out + " from " + strings.Join(from, ", ") + w.where(from...)
	switch w.x.below(4) {
	case 0:
		s += " order by " + w.sum(1+w.x.below(2), from) + w.x.of("", " desc")
	case 1:
		s += " order by " + w.test(1, from) + w.x.of("", " desc")
	}
	if w.x.below(4) == 0 {
		s += " limit " + fmt.Sprint(w.x.below(20))
	}
	return s
}

func (w writer) command() string {
	switch n := w.x.below(40); {
	case n < 2 || len(w.c.Tables) == 0 && n < 30:
		return w.create()
	case n < 4:
		return w.mark()
	case n == 4 && w.x.below(3) == 0:
		return "drop table " + w.table()
	case n < 18:
		return w.insert()
	case n < 20:
		table := w.table()
		return "delete from " + table + w.where(table)
	case n < 25:
		return w.update()
	}
	return w.search()
}

func (w writer) script() string {
	n := w.x.below(3)
	if w.x.below(20) == 0 {
		n = 3 + w.x.below(5)
	}
	s := w.command() + ";"
	for range n {
		s += " " + w.command() + ";"
	}
	return s
}

// Each script's reply, and what there is then, against a model that looks at
// all rows.
func TestLikeModel(t *testing.T) {
	seen := map[api.Errno]int{}
	found, indexed := 0, 0
	for run := range 120 {
		x := mixer(run)
		g, m := New(), model{rows: map[string][][]api.Value{}}
		for range 152 {
			var r api.Reply
			m, r = likeModel(t, g, m, writer{&x, m.catalog}.script())
			seen[r.Code]++
			found += len(r.Rows)
			indexed += len(m.catalog.Indexes)
		}
	}
	t.Log(seen, found, indexed)
	for _, e := range []api.Errno{api.OK, api.ErrForm, api.ErrLong, api.ErrNone, api.ErrTwice, api.ErrType, api.ErrNull, api.ErrFull} {
		if seen[e] < 20 {
			t.Errorf("%d: %d times", e, seen[e])
		}
	}
}
