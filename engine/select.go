package engine

import (
	"cmp"
	"slices"

	"askance/api"
	"askance/plan"
	"askance/value"
)

// found is a row of all tables that a command selects from.
type found struct {
	row []api.Value
	ids []api.Value // the first value of each table
	by  []api.Value // what it is ordered by
}

// selected is the rows that a command answers.
func (g *Engine) selected(s api.Stmt) [][]api.Value {
	l := ordered(s, g.search(s))
	if s.N >= 0 {
		l = l[:min(s.N, len(l))]
	}
	var rows [][]api.Value
	for _, f := range l {
		rows = append(rows, evalAll(s.Out, f.row))
	}
	return rows
}

// search is all rows for which the condition of a command holds. Of each table
// only those are looked at for which it may hold, whatever the other one has.
func (g *Engine) search(s api.Stmt) []found {
	l := []found{{}}
	at := 0
	for _, name := range s.From {
		t := g.table(name)
		l = each(l, plan.Rows(g.tree, t, plan.Choose(g.catalog, t, at, s.Where)))
		at += len(t.Cols)
	}
	return slices.DeleteFunc(l, func(f found) bool { return !holds(s.Where, f.row) })
}

// each is each of what was found with each row of one more table behind it.
func each(l []found, rows [][]api.Value) []found {
	var both []found
	for _, f := range l {
		for _, row := range rows {
			both = append(both, found{row: slices.Concat(f.row, row), ids: slices.Concat(f.ids, row[:1])})
		}
	}
	return both
}

// ordered is what was found by what a command's order comes to, and where that
// is alike by first values, which rise even if the order falls.
func ordered(s api.Stmt, l []found) []found {
	for i, f := range l {
		l[i].by = evalAll(s.Order, f.row)
	}
	turn := 1
	if s.Down {
		turn = -1
	}
	slices.SortFunc(l, func(a, b found) int {
		return cmp.Or(turn*compareAll(a.by, b.by), compareAll(a.ids, b.ids))
	})
	return l
}

// compareAll compares lists by their first values that are not alike.
func compareAll(a, b []api.Value) int { return slices.CompareFunc(a, b, value.Compare) }
