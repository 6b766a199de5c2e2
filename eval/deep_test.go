package eval

import (
	"slices"
	"testing"

	"askance/api"
)

// chain is an expression of that many levels of an operation around another
// one, which is at a place among the arguments of each; the others are rest.
func chain(levels, op, at int, e, rest api.Expr) api.Expr {
	for range levels {
		args := slices.Repeat([]api.Expr{rest}, argumentCount(op))
		args[at] = e
		e = api.Expr{Op: op, L: args}
	}
	return e
}

func deepSays(t *testing.T, levels int) {
	t.Helper()
	row := []api.Value{num(5)}
	parity := []api.Value{no(), yes()}
	for _, one := range []struct {
		op, at  int
		e, rest api.Expr
		want    api.Value
	}{
		{api.Not, 0, lit(no()), api.Expr{}, parity[levels%2]},
		{api.Is, 0, lit(num(1)), api.Expr{}, no()},
		{api.Plus, 0, ref(0), lit(num(0)), num(5)},
		{api.Plus, 1, ref(0), lit(num(0)), num(5)},
		{api.Minus, 0, ref(0), lit(num(0)), num(5)},
		{api.Minus, 1, ref(0), lit(num(0)), num([]int{5, -5}[levels%2])},
		{api.And, 0, lit(no()), lit(yes()), no()},
		{api.And, 1, lit(api.Value{}), lit(yes()), api.Value{}},
		{api.Or, 0, lit(yes()), lit(no()), yes()},
		{api.Or, 1, lit(no()), lit(no()), no()},
		{api.Plus, 1, of(99), lit(num(0)), api.Value{}},
	} {
		if got := Eval(chain(levels, one.op, one.at, one.e, one.rest), row); got != one.want {
			t.Errorf("%d levels of %d at %d: %+v; wanted %+v", levels, one.op, one.at, got, one.want)
		}
	}
}

func TestDeep(t *testing.T) {
	for _, levels := range []int{1, 2, 39, 40, 41, maxCalls - 2, maxCalls - 1, maxCalls, maxCalls + 1, maxCalls + 2, 2 * maxCalls, 2*maxCalls + 1, 100001} {
		deepSays(t, levels)
	}
}

// An expression that is so deep that calls within each other have no stack for it.
func TestTooDeepForCalls(t *testing.T) {
	const levels = 3000001
	if got := Eval(chain(levels, api.Minus, 1, ref(0), lit(num(0))), []api.Value{num(5)}); got != num(-5) {
		t.Errorf("%+v", got)
	}
}

// bushy is an expression of two arguments everywhere, up to a depth; its leaves
// count on, and so each has its own place in what it comes to.
func bushy(depth int, next *int) api.Expr {
	if depth == 0 {
		*next++
		return lit(num(*next * *next))
	}
	op := api.Plus + (depth+*next)%2
	return of(op, bushy(depth-1, next), bushy(depth-1, next))
}

// However many calls may be within each other, an expression comes to the same.
func TestCallsOrNot(t *testing.T) {
	for depth := range 9 {
		next := 0
		e := bushy(depth, &next)
		want := modelOf(e, nil)
		for calls := -1; calls <= depth+1; calls++ {
			if got := evalWithin(e, nil, calls); got != want {
				t.Errorf("depth %d, %d calls: %+v; wanted %+v", depth, calls, got, want)
			}
		}
	}
}

// Of what is below a leaf, or below an operation with too many arguments,
// nothing counts, and nothing is in the way of its neighbours.
func TestLooseArguments(t *testing.T) {
	loose := api.Expr{Op: api.Lit, V: num(3), L: lits(num(50), num(60), num(70))}
	wrong := of(api.And, lit(yes()), lit(yes()), lit(yes()))
	e := of(api.And,
		of(api.Eq, of(api.Plus, loose, lit(num(4))), of(api.Minus, lit(num(10)), loose)),
		of(api.And, of(api.Is, wrong), of(api.Lt, loose, lit(num(4)))))
	comes(t, e, nil, yes())
	comes(t, chain(maxCalls, api.And, 1, e, lit(yes())), nil, yes())
}
