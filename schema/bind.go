package schema

import (
	"slices"

	"askance/api"
	"askance/syntax"
)

// Bind is a command with its columns bound, of a good catalog; what is wrong with it.
func Bind(c api.Catalog, s api.Stmt) (api.Stmt, api.Errno) {
	if !Good(c) || !goodExprs(s) {
		return api.Stmt{}, api.ErrForm
	}
	bound, e := bindKind(c, s)
	if e != api.OK {
		return api.Stmt{}, e
	}
	return bound, api.OK
}

// goodExprs is whether all expressions of a command are good, those too for
// which its kind has no use.
func goodExprs(s api.Stmt) bool {
	bad := func(e api.Expr) bool { return !GoodExpr(e, maxDeep) }
	anyBad := func(l []api.Expr) bool { return slices.ContainsFunc(l, bad) }
	badSet := func(t api.Set) bool { return bad(t.E) }
	return !slices.ContainsFunc(s.Rows, anyBad) && !slices.ContainsFunc(s.Sets, badSet) &&
		!anyBad(s.Out) && !anyBad(s.Order) && (s.Where.Op == 0 || !bad(s.Where))
}

func bindKind(c api.Catalog, s api.Stmt) (api.Stmt, api.Errno) {
	switch s.Kind {
	case api.Create:
		return s, mayCreate(c, s)
	case api.Mark:
		return s, mayMark(c, s)
	case api.Drop:
		return s, mayDrop(c, s)
	case api.Insert, api.Delete, api.Update:
		return bindChange(c, s)
	case api.Select:
		return bindSelect(c, s)
	}
	return s, api.ErrForm
}

func mayCreate(c api.Catalog, s api.Stmt) api.Errno {
	_, there := FindTable(c, s.Name)
	switch {
	case !GoodTable(api.Table{Name: s.Name, Cols: s.Cols}):
		return api.ErrForm
	case there:
		return api.ErrTwice
	case len(c.Tables) >= api.MaxTables:
		return api.ErrFull
	}
	return api.OK
}

func mayMark(c api.Catalog, s api.Stmt) api.Errno {
	named := func(x api.Index) bool { return x.Name == s.Name }
	switch {
	case !syntax.Named(s.Name):
		return api.ErrForm
	case !hasCol(c, s.Table, s.Col):
		return api.ErrNone
	case slices.ContainsFunc(c.Indexes, named):
		return api.ErrTwice
	case len(c.Indexes) >= api.MaxIndexes:
		return api.ErrFull
	}
	return api.OK
}

func mayDrop(c api.Catalog, s api.Stmt) api.Errno {
	if _, there := FindTable(c, s.Name); !there {
		return api.ErrNone
	}
	return api.OK
}

// bindChange binds all that changes the rows of a table: of each kind of
// command only some of it is there.
func bindChange(c api.Catalog, s api.Stmt) (api.Stmt, api.Errno) {
	t, there := FindTable(c, s.Table)
	if !there {
		return s, api.ErrNone
	}
	var e api.Errno
	if s.Rows, e = bindRows(t, s.Rows); e != api.OK {
		return s, e
	}
	if s.Sets, e = bindSets(t, s.Sets); e != api.OK {
		return s, e
	}
	s.Where, e = scope{t}.bindWhere(s.Where)
	return s, e
}

func bindRows(t api.Table, rows [][]api.Expr) ([][]api.Expr, api.Errno) {
	bound := make([][]api.Expr, len(rows))
	for i, row := range rows {
		var e api.Errno
		if bound[i], e = bindRow(t, row); e != api.OK {
			return nil, e
		}
	}
	return bound, api.OK
}

func bindRow(t api.Table, row []api.Expr) ([]api.Expr, api.Errno) {
	if len(row) != len(t.Cols) {
		return nil, api.ErrType
	}
	bound := make([]api.Expr, len(row))
	for i, one := range row {
		var e api.Errno
		if bound[i], e = (scope{}).bindAs(t.Cols[i].Type, one); e != api.OK {
			return nil, e
		}
	}
	return bound, api.OK
}

func bindSets(t api.Table, sets []api.Set) ([]api.Set, api.Errno) {
	seen := counts{}
	bound := make([]api.Set, len(sets))
	for i, set := range sets {
		at := FindCol(t, set.Col)
		if at < 0 {
			return nil, api.ErrNone
		}
		if seen.again(set.Col) {
			return nil, api.ErrTwice
		}
		one, e := scope{t}.bindAs(t.Cols[at].Type, set.E)
		if e != api.OK {
			return nil, e
		}
		bound[i] = api.Set{Col: set.Col, E: one}
	}
	return bound, api.OK
}

func bindSelect(c api.Catalog, s api.Stmt) (api.Stmt, api.Errno) {
	tables, e := scopeOf(c, s.From)
	if e != api.OK {
		return s, e
	}
	if s.Out, e = tables.bindOut(s.Out); e != api.OK {
		return s, e
	}
	if s.Order, e = tables.bindAll(s.Order); e != api.OK {
		return s, e
	}
	s.Where, e = tables.bindWhere(s.Where)
	return s, e
}

// scopeOf is the tables that a command selects from.
func scopeOf(c api.Catalog, from []string) (scope, api.Errno) {
	if len(from) < 1 || len(from) > 2 {
		return nil, api.ErrForm
	}
	seen := counts{}
	var tables scope
	for _, name := range from {
		t, there := FindTable(c, name)
		if !there {
			return nil, api.ErrNone
		}
		if seen.again(name) {
			return nil, api.ErrTwice
		}
		tables = append(tables, t)
	}
	return tables, api.OK
}

func (s scope) bindOut(l []api.Expr) ([]api.Expr, api.Errno) {
	if len(l) == 0 {
		return s.columns(), api.OK
	}
	return s.bindAll(l)
}
