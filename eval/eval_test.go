package eval

import (
	"math"
	"reflect"
	"slices"
	"testing"

	"askance/api"
)

// comes wants an expression to come to a value in a row, by calls within each
// other and without.
func comes(t *testing.T, e api.Expr, row []api.Value, want api.Value) {
	t.Helper()
	if got := Eval(e, row); got != want {
		t.Errorf("%+v of %+v: %+v; wanted %+v", e, row, got, want)
	}
	for calls := range 3 {
		if got := evalWithin(e, row, calls); got != want {
			t.Errorf("%+v of %+v, %d calls: %+v; wanted %+v", e, row, calls, got, want)
		}
	}
}

func TestLit(t *testing.T) {
	for _, v := range allValues() {
		comes(t, lit(v), nil, v)
		comes(t, api.Expr{Op: api.Lit, V: v, S: "t", Name: "a", N: 0}, []api.Value{num(7)}, v)
	}
}

func TestRef(t *testing.T) {
	row := allValues()
	for i, v := range row {
		comes(t, ref(i), row, v)
		comes(t, api.Expr{Op: api.Ref, V: num(7), S: "t", Name: "b", N: i}, row, v)
	}
}

func TestRefOfNoPlace(t *testing.T) {
	three := []api.Value{num(7), num(8), num(9)}
	// What is in a row's spare room is not in the row.
	rows := [][]api.Value{nil, {}, {num(7)}, three, three[:2], three[:0]}
	for _, row := range rows {
		for _, place := range []int{len(row), len(row) + 1, len(row) + 100, -1, -2, -len(row) - 1, 1 << 32, math.MaxInt, math.MinInt} {
			e := ref(place)
			e.V = num(5)
			comes(t, e, row, api.Value{})
			comes(t, of(api.Is, e), row, yes())
		}
	}
}

// A Lit and a Ref are what they are, whatever arguments they have.
func TestLeavesWithArguments(t *testing.T) {
	row := []api.Value{num(7), str("x")}
	for n := range 5 {
		args := slices.Repeat([]api.Expr{ref(0)}, n)
		comes(t, api.Expr{Op: api.Lit, V: num(5), L: args}, row, num(5))
		comes(t, api.Expr{Op: api.Ref, N: 1, L: args}, row, str("x"))
		comes(t, of(api.Eq, api.Expr{Op: api.Lit, V: num(5), L: args}, api.Expr{Op: api.Ref, N: 0, L: args}), row, no())
	}
}

func TestOneArgument(t *testing.T) {
	for _, a := range allValues() {
		for _, op := range []int{api.Not, api.Is} {
			want := model(op, a)
			comes(t, of(op, lit(a)), nil, want)
			comes(t, of(op, ref(1)), []api.Value{{}, a}, want)
		}
	}
}

func TestTwoArguments(t *testing.T) {
	for _, a := range allValues() {
		for _, b := range allValues() {
			for op := api.Plus; op <= api.Or; op++ {
				want := model(op, a, b)
				comes(t, of(op, lit(a), lit(b)), nil, want)
				comes(t, of(op, ref(1), ref(0)), []api.Value{b, a}, want)
			}
		}
	}
}

func TestTruthTables(t *testing.T) {
	three := []api.Value{no(), yes(), {}}
	and := [3][3]int{{0, 0, 0}, {0, 1, 2}, {0, 2, 2}}
	or := [3][3]int{{0, 1, 2}, {1, 1, 1}, {2, 1, 2}}
	not := [3]int{1, 0, 2}
	for i, a := range three {
		comes(t, of(api.Not, lit(a)), nil, three[not[i]])
		for k, b := range three {
			comes(t, of(api.And, lit(a), lit(b)), nil, three[and[i][k]])
			comes(t, of(api.Or, lit(a), lit(b)), nil, three[or[i][k]])
		}
	}
	// A number or a text is no truth, not even 0 or 1; of other truths N counts.
	for _, v := range []api.Value{num(0), num(1), str(""), str("x"), {N: 1}, {Kind: 4, N: 1}} {
		comes(t, of(api.Not, lit(v)), nil, api.Value{})
		comes(t, of(api.And, lit(v), lit(yes())), nil, api.Value{})
		comes(t, of(api.And, lit(v), lit(no())), nil, no())
		comes(t, of(api.Or, lit(no()), lit(v)), nil, api.Value{})
		comes(t, of(api.Or, lit(yes()), lit(v)), nil, yes())
	}
	odd, even := api.Value{Kind: api.Truth, N: -7}, api.Value{Kind: api.Truth, N: 8, S: "x"}
	comes(t, of(api.Not, lit(odd)), nil, no())
	comes(t, of(api.Not, lit(even)), nil, yes())
	comes(t, of(api.And, lit(odd), lit(yes())), nil, yes())
	comes(t, of(api.Or, lit(even), lit(no())), nil, no())
}

func TestIs(t *testing.T) {
	for v, want := range map[api.Value]api.Value{
		{}: yes(), {N: 1}: yes(), {S: "x"}: yes(), num(0): no(), str(""): no(), no(): no(), yes(): no(),
		num(math.MaxInt): no(), {Kind: 4}: no(), {Kind: -1}: no(), {Kind: math.MinInt}: no(),
	} {
		comes(t, of(api.Is, lit(v)), nil, want)
	}
	comes(t, of(api.Is, of(api.Is, lit(api.Value{}))), nil, no())
	comes(t, of(api.Is, of(99)), nil, yes())
	comes(t, of(api.Is, of(api.And, lit(yes()))), nil, yes())
}

func TestSums(t *testing.T) {
	const most = api.MaxNumber
	for _, one := range []struct{ op, a, b, want int }{
		{api.Plus, 1, 2, 3}, {api.Plus, 2, -5, -3}, {api.Plus, most - 1, 1, most}, {api.Plus, most, -most, 0}, {api.Plus, -most + 1, -1, -most}, {api.Plus, most, 0, most},
		{api.Minus, 1, 2, -1}, {api.Minus, 2, 1, 1}, {api.Minus, 0, most, -most}, {api.Minus, 0, -most, most}, {api.Minus, most, most, 0}, {api.Minus, -most + 1, 1, -most}, {api.Minus, -1, -3, 2},
	} {
		comes(t, of(one.op, lit(num(one.a)), lit(num(one.b))), nil, num(one.want))
	}
	for _, one := range []struct{ op, a, b int }{
		{api.Plus, most, 1}, {api.Plus, -most, -1}, {api.Plus, most, most}, {api.Minus, -most, 1}, {api.Minus, most, -1}, {api.Minus, -most, most}, {api.Minus, most, -most},
		// What is not good has no sum, even if that would be good.
		{api.Plus, most + 1, -1}, {api.Plus, -1, most + 1}, {api.Minus, most + 1, 1}, {api.Minus, most + 1, most + 1}, {api.Plus, math.MaxInt, math.MinInt}, {api.Plus, math.MaxInt, 1}, {api.Minus, math.MinInt, 1}, {api.Minus, 0, math.MinInt},
	} {
		comes(t, of(one.op, lit(num(one.a)), lit(num(one.b))), nil, api.Value{})
	}
	for _, l := range [][2]api.Value{{str("1"), str("2")}, {str(""), str("")}, {num(1), str("")}, {str("1"), num(1)}, {num(1), {}}, {{}, num(1)}, {{}, {}}, {yes(), yes()}, {num(1), yes()}} {
		for _, op := range []int{api.Plus, api.Minus} {
			comes(t, of(op, lits(l[:]...)...), nil, api.Value{})
		}
	}
}

func TestComparisons(t *testing.T) {
	l := goodValues()
	for i, a := range l {
		for k, b := range l {
			equal, less := api.Value{}, api.Value{}
			if i > 0 && a.Kind == b.Kind {
				equal, less = no(), no()
				if i == k {
					equal = yes()
				}
				if i < k {
					less = yes()
				}
			}
			comes(t, of(api.Eq, lit(a), lit(b)), nil, equal)
			comes(t, of(api.Lt, lit(a), lit(b)), nil, less)
		}
	}
	// Truths and what is not good are not even like themselves.
	for _, a := range append(truthValues(), badValues()...) {
		for _, op := range []int{api.Eq, api.Lt} {
			comes(t, of(op, lit(a), lit(a)), nil, api.Value{})
			comes(t, of(op, lit(a), lit(api.Value{Kind: a.Kind})), nil, api.Value{})
			comes(t, of(op, lit(api.Value{Kind: a.Kind}), lit(a)), nil, api.Value{})
		}
	}
}

func TestNoSuchOperation(t *testing.T) {
	for _, op := range []int{0, -1, 11, 12, 99, 256 + api.Lit, 1<<32 + api.Lit, math.MaxInt, math.MinInt} {
		for n := range 4 {
			e := of(op, slices.Repeat([]api.Expr{lit(yes())}, n)...)
			e.V = num(5)
			comes(t, e, []api.Value{num(7)}, api.Value{})
		}
	}
	comes(t, api.Expr{}, nil, api.Value{})
}

func TestNotAsManyArguments(t *testing.T) {
	for op := api.Plus; op <= api.Is; op++ {
		for _, v := range []api.Value{{}, num(1), str("x"), no(), yes()} {
			for n := range 5 {
				if n == argumentCount(op) {
					continue
				}
				e := of(op, slices.Repeat([]api.Expr{lit(v)}, n)...)
				e.V = num(5)
				comes(t, e, []api.Value{num(7)}, api.Value{})
				comes(t, of(api.Or, e, lit(yes())), []api.Value{num(7)}, yes())
			}
		}
	}
}

// makes is what all operations make of expressions.
func makes(l []api.Expr) []api.Expr {
	var made []api.Expr
	for _, a := range l {
		made = append(made, of(api.Not, a), of(api.Is, a))
		for _, b := range l {
			for op := api.Plus; op <= api.Or; op++ {
				made = append(made, of(op, a, b))
			}
		}
	}
	return made
}

func TestWithinEachOther(t *testing.T) {
	row := []api.Value{num(5), str("x"), {}, num(api.MaxNumber)}
	leaves := append(lits(num(5), num(-1), str("a"), yes(), no()), ref(0), ref(1), ref(2), ref(3))
	all := append(leaves, makes(leaves)...)
	var some []api.Expr
	for i, e := range all {
		if i < len(leaves) || i%7 == 0 {
			some = append(some, e)
		}
	}
	all = append(all, makes(some)...)
	if len(all) < 30000 {
		t.Errorf("%d expressions alone", len(all))
	}
	for _, e := range all {
		comes(t, e, row, modelOf(e, row))
	}
}

func TestOrderOfArguments(t *testing.T) {
	row := []api.Value{num(1), num(10), num(100), num(1000)}
	minus := func(a, b api.Expr) api.Expr { return of(api.Minus, a, b) }
	comes(t, minus(minus(minus(ref(3), ref(2)), ref(1)), ref(0)), row, num(889))
	comes(t, minus(ref(3), minus(ref(2), minus(ref(1), ref(0)))), row, num(909))
	comes(t, minus(minus(ref(3), ref(2)), minus(ref(1), ref(0))), row, num(891))
	comes(t, of(api.Lt, minus(ref(0), ref(3)), minus(ref(1), ref(2))), row, yes())
}

// What is handed in stays as it was, its spare room too.
func TestHandedInStays(t *testing.T) {
	made := func() ([]api.Expr, []api.Value) {
		args := []api.Expr{ref(0), of(api.Plus, lit(num(2)), ref(0)), lit(num(77))}
		return args, []api.Value{num(5), str("x"), num(78)}
	}
	args, row := made()
	for calls := range 3 {
		evalWithin(api.Expr{Op: api.Lt, L: args[:2]}, row[:1], calls)
	}
	Eval(api.Expr{Op: api.Lt, L: args[:2]}, row[:1])
	wantArgs, wantRow := made()
	if !reflect.DeepEqual(args, wantArgs) || !reflect.DeepEqual(row, wantRow) {
		t.Errorf("%+v, %+v", args, row)
	}
}
