package eval

import (
	"math"

	"askance/api"
	"askance/value"
)

func num(n int) api.Value { return api.Value{Kind: api.Int, N: n} }

func str(s string) api.Value { return api.Value{Kind: api.Text, S: s} }

func yes() api.Value { return api.Value{Kind: api.Truth, N: 1} }

func no() api.Value { return api.Value{Kind: api.Truth} }

func lit(v api.Value) api.Expr { return api.Expr{Op: api.Lit, V: v} }

func ref(place int) api.Expr { return api.Expr{Op: api.Ref, Name: "a", N: place} }

func of(op int, args ...api.Expr) api.Expr { return api.Expr{Op: op, L: args} }

// lits are expressions that come to values.
func lits(l ...api.Value) []api.Expr {
	var all []api.Expr
	for _, v := range l {
		all = append(all, lit(v))
	}
	return all
}

// goodValues are values that rows may have.
func goodValues() []api.Value {
	return []api.Value{
		{}, num(-api.MaxNumber), num(-api.MaxNumber + 1), num(-256), num(-1), num(0), num(1), num(2), num(255), num(500000), num(api.MaxNumber - 1), num(api.MaxNumber),
		str(""), str(" "), str("1"), str("10"), str("2"), str("B"), str("a"), str("aa"), str("b"), str("~~~~~~~~"),
	}
}

// truthValues are what conditions come to, and truths of numbers that none comes to.
func truthValues() []api.Value {
	l := []api.Value{{Kind: api.Truth, N: 1, S: "x"}, {Kind: api.Truth, S: "x"}}
	for _, n := range []int{0, 1, 2, 3, 4, -1, -2, -3, 1 << 32, 1<<32 + 1, math.MaxInt, math.MaxInt - 1, math.MinInt, math.MinInt + 1} {
		l = append(l, api.Value{Kind: api.Truth, N: n})
	}
	return l
}

// badValues are neither values that rows may have nor truths.
func badValues() []api.Value {
	return []api.Value{
		{N: 1}, {S: "x"}, {N: -1, S: "x"},
		num(api.MaxNumber + 1), num(-api.MaxNumber - 1), num(math.MaxInt), num(math.MinInt), {Kind: api.Int, N: 1, S: "x"},
		str("123456789"), str("it's"), str("\n"), str("\x7f"), str("\x00"), {Kind: api.Text, N: 1, S: "x"}, {Kind: api.Text, N: 1},
		{Kind: -1}, {Kind: 4}, {Kind: 4, N: 1}, {Kind: -1, N: 1, S: "x"}, {Kind: math.MaxInt, N: 1}, {Kind: math.MinInt, N: 1},
	}
}

func allValues() []api.Value {
	return append(append(goodValues(), truthValues()...), badValues()...)
}

// rank is a truth's place, no being the least and yes the most: so And is the
// least, Or the most, and Not goes the other way.
func rank(v api.Value) int {
	switch {
	case v.Kind != api.Truth:
		return 1
	case v.N%2 == 0:
		return 0
	}
	return 2
}

func ranked(n int) api.Value { return []api.Value{no(), {}, yes()}[n] }

// keyOf is a value as a key, whose order is that of values; empty: it is
// nothing, or has none.
func keyOf(v api.Value) string {
	if v.Kind == api.Null {
		return ""
	}
	key, _ := value.Key([]api.Value{v})
	return key
}

// model is what an operation comes to of values, worked out another way.
func model(op int, l ...api.Value) api.Value {
	a, b := l[0], l[len(l)-1]
	switch op {
	case api.Not:
		return ranked(2 - rank(a))
	case api.Is:
		return map[bool]api.Value{true: yes(), false: no()}[a.Kind == api.Null]
	case api.And:
		return ranked(min(rank(a), rank(b)))
	case api.Or:
		return ranked(max(rank(a), rank(b)))
	}
	x, y := keyOf(a), keyOf(b)
	if x == "" || y == "" || x[0] != y[0] {
		return api.Value{}
	}
	switch op {
	case api.Eq:
		return map[bool]api.Value{true: yes(), false: no()}[x == y]
	case api.Lt:
		return map[bool]api.Value{true: yes(), false: no()}[x < y]
	case api.Minus:
		b.N = -b.N
	}
	if n := a.N + b.N; a.Kind == api.Int && -1000000 <= n && n <= 1000000 {
		return num(n)
	}
	return api.Value{}
}

// modelOf is what an expression of operations with as many arguments as they
// have comes to in a row, worked out another way.
func modelOf(e api.Expr, row []api.Value) api.Value {
	switch e.Op {
	case api.Lit:
		return e.V
	case api.Ref:
		return row[e.N]
	}
	var l []api.Value
	for _, a := range e.L {
		l = append(l, modelOf(a, row))
	}
	return model(e.Op, l...)
}
