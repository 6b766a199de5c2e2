package schema

import (
	"slices"

	"askance/api"
	"askance/syntax"
	"askance/value"
)

// maxDeep is how deep an expression may be, itself and its deepest arguments.
const maxDeep = 40

// GoodExpr is whether an expression is one, and at most that deep. Beyond
// maxDeep none is good, so that nobody goes down into one without an end.
func GoodExpr(e api.Expr, depth int) bool {
	if depth < 1 || len(e.L) != arguments(e.Op) || !goodLeaf(e) {
		return false
	}
	bad := func(a api.Expr) bool { return !GoodExpr(a, min(depth, maxDeep)-1) }
	return !slices.ContainsFunc(e.L, bad)
}

// arguments is how many of them an operation has; -1: it is none.
func arguments(op int) int {
	switch op {
	case api.Lit, api.Ref:
		return 0
	case api.Not, api.Is:
		return 1
	case api.Plus, api.Minus, api.Eq, api.Lt, api.And, api.Or:
		return 2
	}
	return -1
}

// goodLeaf is whether what an expression has beside arguments is as its
// operation wants it.
func goodLeaf(e api.Expr) bool {
	switch e.Op {
	case api.Lit:
		return value.Good(e.V)
	case api.Ref:
		return syntax.Named(e.Name) && (e.S == "" || syntax.Named(e.S))
	}
	return true
}

// scope is the tables that expressions are bound to: a row has all columns of
// the first one, then those of the next.
type scope []api.Table

// columns is all columns of a row, as expressions that are bound.
func (s scope) columns() []api.Expr {
	var l []api.Expr
	for _, t := range s {
		for _, c := range t.Cols {
			l = append(l, api.Expr{Op: api.Ref, S: t.Name, Name: c.Name, N: len(l)})
		}
	}
	return l
}

// bind is a good expression with its columns bound, and its type.
func (s scope) bind(e api.Expr) (api.Expr, int, api.Errno) {
	switch e.Op {
	case api.Lit:
		return e, e.V.Kind, api.OK
	case api.Ref:
		return s.bindRef(e)
	}
	args := make([]api.Expr, len(e.L))
	types := make([]int, len(e.L))
	for i, a := range e.L {
		var no api.Errno
		if args[i], types[i], no = s.bind(a); no != api.OK {
			return api.Expr{}, 0, no
		}
	}
	if !fit(e.Op, types) {
		return api.Expr{}, 0, api.ErrType
	}
	e.L = args
	return e, typeOf(e.Op), api.OK
}

// bindRef looks at all tables even if one has the column: it must be the only one.
func (s scope) bindRef(e api.Expr) (api.Expr, int, api.Errno) {
	found, kind, ahead := 0, 0, 0
	for _, t := range s {
		i := FindCol(t, e.Name)
		if i >= 0 && (e.S == "" || e.S == t.Name) {
			found++
			e.N, kind = ahead+i, t.Cols[i].Type
		}
		ahead += len(t.Cols)
	}
	if found != 1 {
		return api.Expr{}, 0, api.ErrNone
	}
	return e, kind, api.OK
}

// bindAll binds expressions of whatever types.
func (s scope) bindAll(l []api.Expr) ([]api.Expr, api.Errno) {
	bound := make([]api.Expr, len(l))
	for i, e := range l {
		var no api.Errno
		if bound[i], _, no = s.bind(e); no != api.OK {
			return nil, no
		}
	}
	return bound, api.OK
}

// bindAs binds an expression that must be of a type.
func (s scope) bindAs(want int, e api.Expr) (api.Expr, api.Errno) {
	bound, kind, no := s.bind(e)
	if no == api.OK && !countsAs(kind, want) {
		no = api.ErrType
	}
	if no != api.OK {
		return api.Expr{}, no
	}
	return bound, api.OK
}

// bindWhere binds a condition, if it is one.
func (s scope) bindWhere(e api.Expr) (api.Expr, api.Errno) {
	if e.Op == 0 {
		return e, api.OK
	}
	return s.bindAs(api.Truth, e)
}

// fit is whether an operation may have arguments of such types.
func fit(op int, types []int) bool {
	all := func(want int) bool {
		return !slices.ContainsFunc(types, func(kind int) bool { return !countsAs(kind, want) })
	}
	switch op {
	case api.Plus, api.Minus:
		return all(api.Int)
	case api.Eq, api.Lt:
		return all(api.Int) || all(api.Text)
	case api.And, api.Or, api.Not:
		return all(api.Truth)
	}
	return true
}

// countsAs lets nothing be of each type: a null says not which one it stands for.
func countsAs(kind, want int) bool { return kind == want || kind == api.Null }

// typeOf is the type of what an operation on arguments comes to.
func typeOf(op int) int {
	if op == api.Plus || op == api.Minus {
		return api.Int
	}
	return api.Truth
}
