package plan

import (
	"askance/api"
	"askance/schema"
)

// maxDeep is how deep a bound condition is at most.
const maxDeep = 40

// Choose is the way to the rows of a table for which a bound condition may hold; its columns begin at a place.
func Choose(c api.Catalog, t api.Table, at int, where api.Expr) api.Way {
	if !schema.GoodExpr(where, maxDeep) {
		return All(t.Name)
	}
	best := column{at, 0}.where(where, true)
	way := best.way("", rowsBegin(t.Name))
	for _, x := range indexes(c) {
		col := indexedCol(t, x)
		if col < 0 {
			continue
		}
		if s := (column{at, col}).where(where, true); s.rank() < best.rank() {
			best, way = s, s.way(x.Name, indexBegin(x.Name))
		}
	}
	return way
}

// indexes is those of a catalog that may be gone by: none, if it is not good.
// An index could be without a name then, and a way by it would be none by an
// index.
func indexes(c api.Catalog) []api.Index {
	if !schema.Good(c) {
		return nil
	}
	return c.Indexes
}

// column is one of a table whose columns begin at a place in a row.
type column struct{ at, col int }

func (c column) is(e api.Expr) bool {
	return e.Op == api.Ref && 0 <= c.at && c.at <= e.N && e.N-c.at == c.col
}

// where is the span of what the column is in all rows for which a good
// condition is yes; or for which it is no, since a not turns one into the other.
// Rows of which nobody knows count for neither.
func (c column) where(e api.Expr, yes bool) span {
	switch e.Op {
	case api.Not:
		return c.where(e.L[0], !yes)
	case api.And, api.Or:
		a, b := c.where(e.L[0], yes), c.where(e.L[1], yes)
		if yes == (e.Op == api.And) {
			return a.both(b)
		}
		return a.either(b)
	case api.Is:
		return c.whereIs(e.L[0], yes)
	case api.Eq, api.Lt:
		return c.whereCompared(e.Op, e.L[0], e.L[1], yes)
	case api.Lit:
		return span{} // no good value is a truth
	}
	return begun("")
}

func (c column) whereIs(a api.Expr, yes bool) span {
	nothing := begun(keyOf(api.Value{}))
	switch {
	case !c.is(a):
		return begun("")
	case yes:
		return nothing
	}
	return span{nothing.hi, begun("").hi}
}

func (c column) whereCompared(op int, a, b api.Expr, yes bool) span {
	switch {
	case isNothing(a) || isNothing(b):
		return span{}
	case op == api.Eq && c.is(a) && b.Op == api.Lit:
		return like(b.V, yes)
	case op == api.Eq && a.Op == api.Lit && c.is(b):
		return like(a.V, yes)
	case op == api.Lt && c.is(a) && b.Op == api.Lit:
		return ahead(b.V, yes)
	case op == api.Lt && a.Op == api.Lit && c.is(b):
		return behind(a.V, yes)
	}
	return begun("")
}

func isNothing(e api.Expr) bool { return e.Op == api.Lit && e.V.Kind == api.Null }
