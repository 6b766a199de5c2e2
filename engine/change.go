package engine

import (
	"slices"

	"askance/api"
	"askance/eval"
	"askance/plan"
	"askance/schema"
	"askance/tree"
	"askance/value"
)

func (g *Engine) create(s api.Stmt) { g.catalog = schema.With(g.catalog, s) }

// mark puts all rows again, with the new index: a row that is there already
// stays as it is.
func (g *Engine) mark(s api.Stmt) {
	t := g.table(s.Table)
	g.catalog = schema.With(g.catalog, s)
	for _, row := range g.rows(t) {
		g.tree = plan.Put(g.tree, g.catalog, t, row)
	}
}

// drop takes the rows ahead of the table: behind it nobody knows which indexes
// had them.
func (g *Engine) drop(s api.Stmt) {
	t := g.table(s.Name)
	g.lose(t, g.rows(t))
	g.catalog = schema.With(g.catalog, s)
}

// table is one that there is: Bind has looked for it.
func (g *Engine) table(name string) api.Table {
	t, _ := schema.FindTable(g.catalog, name)
	return t
}

// rows is all rows of a table.
func (g *Engine) rows(t api.Table) [][]api.Value {
	return plan.Rows(g.tree, t, plan.All(t.Name))
}

// insert, delete and update answer how many rows they have changed.
func (g *Engine) insert(s api.Stmt) (int, api.Errno) {
	var rows [][]api.Value
	for _, l := range s.Rows {
		rows = append(rows, evalAll(l, nil))
	}
	return g.put(g.table(s.Table), rows)
}

func (g *Engine) delete(s api.Stmt) (int, api.Errno) {
	t := g.table(s.Table)
	rows := g.those(t, s.Where)
	g.lose(t, rows)
	return len(rows), api.OK
}

func (g *Engine) update(s api.Stmt) (int, api.Errno) {
	t := g.table(s.Table)
	rows := g.those(t, s.Where)
	g.lose(t, rows)
	return g.put(t, updated(t, s.Sets, rows))
}

// evalAll is what expressions come to in a row.
func evalAll(l []api.Expr, row []api.Value) []api.Value {
	var values []api.Value
	for _, e := range l {
		values = append(values, eval.Eval(e, row))
	}
	return values
}

// those is the rows of a table for which a condition holds, by their first
// values: a way may lead to them in another order.
func (g *Engine) those(t api.Table, where api.Expr) [][]api.Value {
	rows := plan.Rows(g.tree, t, plan.Choose(g.catalog, t, 0, where))
	rows = slices.DeleteFunc(rows, func(row []api.Value) bool { return !holds(where, row) })
	slices.SortFunc(rows, func(a, b []api.Value) int { return value.Compare(a[0], b[0]) })
	return rows
}

// holds is whether a condition does, for a row; none does for all.
func holds(where api.Expr, row []api.Value) bool {
	return where.Op == 0 || eval.Of(eval.Eval(where, row)) == 1
}

// updated is rows with what sets come to, each of the row as it was: no set
// sees what another one has done.
func updated(t api.Table, sets []api.Set, rows [][]api.Value) [][]api.Value {
	var l [][]api.Value
	for _, row := range rows {
		next := slices.Clone(row)
		for _, set := range sets {
			next[schema.FindCol(t, set.Col)] = eval.Eval(set.E, row)
		}
		l = append(l, next)
	}
	return l
}

func (g *Engine) lose(t api.Table, rows [][]api.Value) {
	for _, row := range rows {
		g.tree = plan.Drop(g.tree, g.catalog, t, row)
	}
}

// put puts rows, up to the first one that may not be there; it answers how many.
func (g *Engine) put(t api.Table, rows [][]api.Value) (int, api.Errno) {
	for _, row := range rows {
		if e := g.mayPut(t, row); e != api.OK {
			return 0, e
		}
		g.tree = plan.Put(g.tree, g.catalog, t, row)
	}
	return len(rows), api.OK
}

func (g *Engine) mayPut(t api.Table, row []api.Value) api.Errno {
	_, twice := tree.Get(g.tree, plan.RowKey(t.Name, row[0]))
	switch {
	case lacks(t, row):
		return api.ErrNull
	case twice:
		return api.ErrTwice
	case len(g.rows(t)) >= api.MaxRows:
		return api.ErrFull
	}
	return api.OK
}

// lacks is whether a row has nothing where something must be.
func lacks(t api.Table, row []api.Value) bool {
	for i, c := range t.Cols {
		if c.Must && row[i].Kind == api.Null {
			return true
		}
	}
	return false
}
