package schema

import (
	"math"
	"slices"
	"testing"

	"askance/api"
)

// leaves are good expressions without arguments.
func leaves() []api.Expr {
	return []api.Expr{nothing(), number(0), number(api.MaxNumber), number(-api.MaxNumber), text(""), text("12345678"), ref("", "a", 0), ref("t", "a", 0), ref("abcdefgh", "abcdefgh", 0)}
}

func TestGoodExpr(t *testing.T) {
	good := leaves()
	for _, e := range leaves() {
		for op := api.Plus; op <= api.Or; op++ {
			good = append(good, of(op, e, e))
		}
		good = append(good, of(api.Not, e), of(api.Is, e), of(api.Not, of(api.Is, e)))
	}
	// What an operation has no use for is not looked at.
	for op := api.Lit; op <= api.Is; op++ {
		e := of(op, slices.Repeat([]api.Expr{nothing()}, arguments(op))...)
		e.N = -7
		if op != api.Lit {
			e.V = api.Value{Kind: 9}
		}
		if op != api.Ref {
			e.S, e.Name = "from", "12"
		} else {
			e.Name = "a"
		}
		good = append(good, e)
	}
	for _, e := range good {
		if !GoodExpr(e, maxDeep) {
			t.Errorf("%+v: not good", e)
		}
	}
}

func badExprs() []api.Expr {
	bad := []api.Expr{
		of(-1), of(11), of(11, nothing()), of(11, nothing(), nothing()), of(math.MaxInt), of(math.MinInt),
		number(api.MaxNumber + 1), number(-api.MaxNumber - 1), text("123456789"), text("'"), text("\n"), text("\x7f"),
		{Op: api.Lit, V: api.Value{Kind: api.Truth, N: 1}}, {Op: api.Lit, V: api.Value{Kind: api.Null, N: 1}}, {Op: api.Lit, V: api.Value{Kind: api.Int, S: "x"}}, {Op: api.Lit, V: api.Value{Kind: -1}},
		ref("", "", 0), ref("t", "", 0), ref("", "from", 0), ref("from", "a", 0), ref(" ", "a", 0), ref("", "A", 0), ref("T", "a", 0), ref("", "abcdefghi", 0), ref("abcdefghi", "a", 0), ref("", "t.a", 0), ref("", "1", 0),
	}
	for op := api.Lit; op <= api.Is; op++ {
		for n := range 4 {
			e := of(op, slices.Repeat([]api.Expr{nothing()}, n)...)
			e.Name = "a"
			if n != arguments(op) {
				bad = append(bad, e)
			}
		}
	}
	return append(bad, deep(41), deep(42), of(api.And, nothing(), deep(40)), of(api.And, deep(40), nothing()), of(api.Is, deep(1000)))
}

func TestBadExpr(t *testing.T) {
	for _, e := range append(badExprs(), of(0)) {
		if GoodExpr(e, maxDeep) {
			t.Errorf("%+v: good", e)
		}
		for op := api.Plus; op <= api.Is; op++ {
			for at := range arguments(op) {
				args := slices.Repeat([]api.Expr{nothing()}, arguments(op))
				args[at] = e
				if GoodExpr(of(op, args...), maxDeep) {
					t.Errorf("%+v within %d: good", e, op)
				}
			}
		}
	}
}

func TestDepth(t *testing.T) {
	for levels := 1; levels <= 45; levels++ {
		if got := GoodExpr(deep(levels), maxDeep); got != (levels <= 40) {
			t.Errorf("%d levels: %v", levels, got)
		}
		for _, depth := range []int{math.MinInt, -1, 0, 1, 2, 39, 40, 41, 50, math.MaxInt} {
			if got := GoodExpr(deep(levels), depth); got != (levels <= min(depth, 40)) {
				t.Errorf("%d levels, at most %d: %v", levels, depth, got)
			}
		}
	}
	if GoodExpr(deep(1<<20), math.MaxInt) {
		t.Error("good")
	}
	// An expression that is an argument of its own has no end.
	l := make([]api.Expr, 2)
	l[0] = of(api.And, l...)
	l[0].L, l[1] = l, nothing()
	if GoodExpr(l[0], math.MaxInt) {
		t.Error("good")
	}
}

// kinds is a set of types, a bit each: that which an expression may be of.
type kinds int

const (
	ints kinds = 1 << iota
	texts
	truths
)

const any3 = ints | texts | truths

// typed is an expression as it is and as it is bound to t and u of two, which
// types it may be of (no error: at least one), and what is wrong.
type typed struct {
	e, bound api.Expr
	kinds    kinds
	no       api.Errno
}

func typedLeaves() []typed {
	var l []typed
	for _, e := range []api.Expr{number(1), text("x"), nothing()} {
		l = append(l, typed{e: e, bound: e, kinds: []kinds{any3, ints, texts}[e.V.Kind]})
	}
	for _, r := range []struct {
		table, col string
		place      int
		kinds      kinds
	}{{"", "a", 0, ints}, {"t", "b", 1, texts}, {"", "id", 2, texts}, {"u", "b", 3, ints}, {"", "t", 4, texts}} {
		l = append(l, typed{e: ref(r.table, r.col, 77), bound: ref(r.table, r.col, r.place), kinds: r.kinds})
	}
	for _, e := range []api.Expr{ref("", "b", 0), ref("", "c", 0), ref("u", "a", 0), ref("v", "a", 0)} {
		l = append(l, typed{e: e, no: api.ErrNone})
	}
	return l
}

// apply is what an operation makes of expressions that it is known of.
func apply(op int, args ...typed) typed {
	made := typed{e: of(op), bound: of(op), kinds: truths}
	together := any3
	for _, a := range args {
		made.e.L = append(made.e.L, a.e)
		made.bound.L = append(made.bound.L, a.bound)
		if made.no == api.OK {
			made.no = a.no
		}
		together &= a.kinds
	}
	wanted := map[int]kinds{api.Plus: ints, api.Minus: ints, api.Eq: ints | texts, api.Lt: ints | texts, api.And: truths, api.Or: truths, api.Not: truths}
	if op == api.Plus || op == api.Minus {
		made.kinds = ints
	}
	if w, some := wanted[op]; some && made.no == api.OK && together&w == 0 {
		made.no = api.ErrType
	}
	return made
}

// applyAll is what all operations make of expressions.
func applyAll(l []typed) []typed {
	var made []typed
	for _, a := range l {
		made = append(made, apply(api.Not, a), apply(api.Is, a))
		for _, b := range l {
			for op := api.Plus; op <= api.Or; op++ {
				made = append(made, apply(op, a, b))
			}
		}
	}
	return made
}

func TestTypes(t *testing.T) {
	c := two()
	leaf := typedLeaves()
	all := append(leaf, applyAll(leaf)...)
	var some []typed
	for i, x := range all {
		if i < len(leaf) || i%11 == 0 {
			some = append(some, x)
		}
	}
	all = append(all, applyAll(some)...)
	for _, x := range all {
		checkTyped(t, c, x)
	}
	if len(all) < 50000 {
		t.Errorf("%d expressions alone", len(all))
	}
}

func checkTyped(t *testing.T, c api.Catalog, x typed) {
	t.Helper()
	from := []string{"t", "u"}
	want, whereNo := x.no, x.no
	if whereNo == api.OK && x.kinds&truths == 0 {
		whereNo = api.ErrType
	}
	for _, one := range []struct {
		s, bound api.Stmt
		no       api.Errno
	}{
		{api.Stmt{Kind: api.Select, From: from, Out: []api.Expr{x.e}}, api.Stmt{Kind: api.Select, From: from, Out: []api.Expr{x.bound}}, want},
		{api.Stmt{Kind: api.Select, From: from, Out: []api.Expr{number(1)}, Order: []api.Expr{x.e}}, api.Stmt{Kind: api.Select, From: from, Out: []api.Expr{number(1)}, Order: []api.Expr{x.bound}}, want},
		{api.Stmt{Kind: api.Select, From: from, Out: []api.Expr{number(1)}, Where: x.e}, api.Stmt{Kind: api.Select, From: from, Out: []api.Expr{number(1)}, Where: x.bound}, whereNo},
	} {
		if one.no != api.OK {
			one.bound = api.Stmt{}
		}
		if got, no := Bind(c, one.s); no != one.no || !same(got, one.bound) {
			t.Fatalf("%+v: %+v, %d; wanted %+v, %d", one.s, got, no, one.bound, one.no)
		}
	}
}

func TestFirstErrorOfExpression(t *testing.T) {
	missing, wrong := ref("", "zz", 0), of(api.Plus, text("x"), number(1))
	for _, one := range []struct {
		e    api.Expr
		want api.Errno
	}{
		{of(api.Plus, text("x"), missing), api.ErrNone},
		{of(api.And, missing, wrong), api.ErrNone},
		{of(api.And, wrong, missing), api.ErrType},
		{of(api.Is, of(api.Or, number(1), of(api.Not, missing))), api.ErrNone},
		{of(api.Eq, of(api.Lt, text("x"), number(1)), missing), api.ErrType},
	} {
		answers(t, two(), api.Stmt{Kind: api.Select, From: []string{"t"}, Out: []api.Expr{one.e}}, one.want)
	}
}
