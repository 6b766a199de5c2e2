package plan

import (
	"math"
	"reflect"
	"slices"
	"testing"

	"askance/api"
	"askance/eval"
)

// join is tables of which the rows of one are looked for.
type join struct {
	t        api.Table
	at       int
	ahead    [][]api.Value // rows of the table ahead of it
	own      [][]api.Value
	followed [][]api.Value // rows of the one behind it
}

func joins() []join {
	none := [][]api.Value{nil}
	return []join{
		{tableT(), 0, none, rowsT(), none},
		{tableT(), 0, none, rowsT(), rowsU()},
		{tableT(), 2, rowsU(), rowsT(), none},
		{tableU(), 0, none, rowsU(), rowsT()},
		{tableU(), 3, rowsT(), rowsU(), none},
	}
}

// holds is whether a condition holds for a row, with some rows of the other table.
func (j join) holds(e api.Expr, r []api.Value) bool {
	for _, a := range j.ahead {
		for _, b := range j.followed {
			if eval.Of(eval.Eval(e, slices.Concat(a, r, b))) == 1 {
				return true
			}
		}
	}
	return false
}

// finds wants a way to all rows for which a condition holds, to each once at
// most, and to none but the table's own; it answers how many it leads to.
func finds(t *testing.T, c api.Catalog, tr api.Tree, j join, e api.Expr) int {
	t.Helper()
	w := Choose(c, j.t, j.at, e)
	got := Rows(tr, j.t, w)
	for _, r := range j.own {
		n := 0
		for _, g := range got {
			if slices.Equal(g, r) {
				n++
			}
		}
		if n > 1 || n == 0 && (e.Op == 0 || j.holds(e, r)) {
			t.Fatalf("%s of %v at %d, by %q: %v %d times", told(e), c.Indexes, j.at, w, r, n)
		}
	}
	for _, g := range got {
		if !slices.ContainsFunc(j.own, func(r []api.Value) bool { return slices.Equal(g, r) }) {
			t.Fatalf("%s of %v at %d, by %q: %v", told(e), c.Indexes, j.at, w, g)
		}
	}
	return len(got)
}

// tests are conditions of columns and values, whatever their types are.
func tests(values []api.Value) []api.Expr {
	l := []api.Expr{lit(api.Value{}), of(api.Is, lit(api.Value{})), of(api.Is, lit(num(1)))}
	for place := range 6 {
		col := ref(place)
		l = append(l, of(api.Is, col), of(api.Is, of(api.Plus, col, lit(num(1)))), of(api.Is, of(api.Eq, col, lit(num(3)))))
		for _, v := range values {
			for _, op := range []int{api.Eq, api.Lt} {
				l = append(l, of(op, col, lit(v)), of(op, lit(v), col))
			}
		}
		for other := range 6 {
			l = append(l, of(api.Eq, col, ref(other)), of(api.Lt, col, ref(other)))
		}
		l = append(l, of(api.Eq, of(api.Plus, col, lit(num(1))), lit(num(4))), of(api.Lt, col, of(api.Minus, ref(0), lit(num(1)))))
	}
	return l
}

func edges() []api.Value {
	return []api.Value{{}, num(-api.MaxNumber), num(-1), num(0), num(3), num(255), num(256), num(api.MaxNumber), str(""), str("w"), str("x"), str("xx"), str("x~"), str("~~~~~~~~")}
}

func everywhere(t *testing.T, conditions []api.Expr) {
	t.Helper()
	for _, c := range catalogs() {
		tr := filled(c)
		for _, j := range joins() {
			for _, e := range conditions {
				finds(t, c, tr, j, e)
			}
		}
	}
}

func TestNoCondition(t *testing.T) {
	for _, c := range catalogs() {
		tr := filled(c)
		for _, j := range joins() {
			if n := finds(t, c, tr, j, api.Expr{}); n != len(j.own) {
				t.Errorf("%d of %d", n, len(j.own))
			}
		}
	}
}

func TestOneTest(t *testing.T) {
	l := tests(edges())
	for _, e := range slices.Clone(l) {
		l = append(l, of(api.Not, e), of(api.Not, of(api.Not, e)))
	}
	everywhere(t, l)
}

func TestTwoTests(t *testing.T) {
	var few, l []api.Expr
	for place := range 3 {
		few = append(few, of(api.Is, ref(place)))
		for _, v := range []api.Value{num(0), num(3), str("x"), {}} {
			few = append(few, of(api.Eq, ref(place), lit(v)), of(api.Lt, ref(place), lit(v)), of(api.Lt, lit(v), ref(place)))
		}
	}
	for i, a := range few {
		for k, b := range few {
			and, or := of(api.And, a, b), of(api.Or, a, b)
			switch (i + k) % 3 {
			case 0:
				l = append(l, and, or)
			case 1:
				l = append(l, of(api.Not, and), of(api.Not, or))
			case 2:
				l = append(l, of(api.And, of(api.Not, a), b), of(api.Or, a, of(api.Not, b)))
			}
		}
	}
	everywhere(t, l)
}

// mixer makes numbers that look as if by chance, the same ones each time.
type mixer uint64

func (m *mixer) below(n int) int {
	*m = *m*6364136223846793005 + 1442695040888963407
	return int(uint64(*m) >> 33 % uint64(n))
}

// mixed is a condition of some levels.
func (m *mixer) mixed(depth int, leaves []api.Expr) api.Expr {
	if depth == 0 || m.below(5) == 0 {
		return leaves[m.below(len(leaves))]
	}
	switch m.below(5) {
	case 0:
		return of(api.Not, m.mixed(depth-1, leaves))
	case 1, 2:
		return of(api.Or, m.mixed(depth-1, leaves), m.mixed(depth-1, leaves))
	}
	return of(api.And, m.mixed(depth-1, leaves), m.mixed(depth-1, leaves))
}

func TestManyTests(t *testing.T) {
	var m mixer
	leaves := tests([]api.Value{num(0), num(3), num(256), str("x"), str("y"), {}})
	var l []api.Expr
	for range 1500 {
		l = append(l, m.mixed(4, leaves))
	}
	everywhere(t, l)
}

// Not a promise of the document, but what ways are for.
func TestWaysAreShort(t *testing.T) {
	eq := func(place int, v api.Value) api.Expr { return of(api.Eq, ref(place), lit(v)) }
	less := func(place int, v api.Value) api.Expr { return of(api.Lt, ref(place), lit(v)) }
	more := func(v api.Value, place int) api.Expr { return of(api.Lt, lit(v), ref(place)) }
	j := joins()[0]
	for _, one := range []struct {
		c    api.Catalog
		e    api.Expr
		want int
	}{
		{catalog(), eq(0, num(3)), 1},
		{catalog(), of(api.Eq, lit(num(3)), ref(0)), 1},
		{catalog(), eq(0, num(77)), 0},
		{catalog("i", "ii"), of(api.And, eq(1, str("x")), eq(0, num(3))), 1},
		{catalog(), less(0, num(0)), 2},
		{catalog(), of(api.Not, less(0, num(255))), 3},
		{catalog(), more(num(255), 0), 2},
		{catalog(), of(api.Not, more(num(0), 0)), 3},
		{catalog(), of(api.And, more(num(0), 0), less(0, num(3))), 2},
		{catalog(), of(api.And, eq(0, num(3)), eq(0, num(4))), 0},
		{catalog(), of(api.Or, eq(0, num(3)), eq(0, num(5))), 3},
		{catalog(), of(api.Or, eq(0, num(3)), eq(0, api.Value{})), 1},
		{catalog(), of(api.Or, eq(0, api.Value{}), eq(0, num(3))), 1},
		{catalog(), eq(2, api.Value{}), 0},
		{catalog("ii"), of(api.Eq, lit(api.Value{}), ref(2)), 0},
		{catalog("ii"), of(api.Not, less(2, api.Value{})), 0},
		{catalog("ii"), more(api.Value{}, 2), 0},
		{catalog(), lit(api.Value{}), 0},
		{catalog(), eq(1, str("x")), 11},
		{catalog("i"), eq(1, str("x")), 2},
		{catalog("i"), of(api.Is, ref(1)), 2},
		{catalog("i"), of(api.Not, of(api.Is, ref(1))), 9},
		{catalog("i"), of(api.Not, eq(1, str("x"))), 9},
		{catalog("i"), less(1, str("x")), 3},
		{catalog("i"), more(str("x"), 1), 4},
		{catalog("i"), of(api.And, less(0, num(5)), eq(1, str("x"))), 2},
		{catalog("i"), of(api.And, of(api.Not, less(0, num(3))), eq(1, str("x"))), 2},
		{catalog("ii"), of(api.And, less(2, num(5)), less(0, num(0))), 2},
		{catalog("i", "ii"), of(api.And, less(1, str("x")), eq(2, num(3))), 2},
		{catalog("i", "ii"), of(api.And, eq(1, str("x")), eq(2, api.Value{})), 0},
		{catalog("i", "ii"), of(api.Or, eq(1, str("x")), eq(2, num(3))), 11},
		{catalog("i", "ii"), of(api.Not, of(api.Or, less(0, num(3)), more(num(3), 0))), 1},
	} {
		if n := finds(t, one.c, filled(one.c), j, one.e); n != one.want {
			t.Errorf("%s of %v: %d; wanted %d", told(one.e), one.c.Indexes, n, one.want)
		}
	}
}

// Of what is no bound condition nothing is taken apart: the way is that to all.
func TestNoBoundCondition(t *testing.T) {
	c := catalog("i", "ii", "j")
	is := of(api.Eq, ref(0), lit(num(3)))
	deep := is
	for range 3000000 {
		deep = of(api.Not, deep)
	}
	endless := api.Expr{Op: api.And, L: make([]api.Expr, 2)}
	endless.L[0], endless.L[1] = endless, endless
	for _, e := range []api.Expr{
		{}, deep, endless, {Op: 11}, {Op: -1}, {Op: math.MaxInt}, of(api.Not), of(api.Is), of(api.Eq), of(api.And, is), of(api.Or, is, is, is),
		of(api.Eq, ref(0)), of(api.Lt, ref(0), lit(num(3)), lit(num(3))), of(api.Not, is, is), of(api.Is, ref(0), ref(1)),
		of(api.Eq, ref(0), lit(num(api.MaxNumber+1))), of(api.Lt, ref(0), lit(api.Value{Kind: 9})), of(api.Eq, api.Expr{Op: api.Ref}, lit(num(3))),
	} {
		if w := Choose(c, tableT(), 0, e); w != All("t") {
			t.Errorf("%d: %q", e.Op, w)
		}
	}
}

// A condition is 40 deep at most: that deep it is taken apart.
func TestDeepCondition(t *testing.T) {
	e := of(api.Eq, ref(0), lit(num(3)))
	for range 19 {
		e = of(api.Not, of(api.Not, e))
	}
	c := catalog()
	if n := finds(t, c, filled(c), joins()[0], e); n != 1 {
		t.Errorf("%d", n)
	}
	if n := finds(t, c, filled(c), joins()[0], of(api.Not, of(api.Not, e))); n != len(rowsT()) {
		t.Errorf("%d", n)
	}
}

// Places that no row has: such a column is nothing, of whichever row.
func TestPlacesOfNoRow(t *testing.T) {
	c := catalog("i", "ii", "j")
	tr := filled(c)
	for _, at := range []int{0, 1, 2, 3, math.MaxInt, math.MaxInt - 1, -1, -2, math.MinInt} {
		for _, place := range []int{-1, -2, -3, math.MinInt, math.MinInt + 1, math.MinInt + 2, math.MaxInt, math.MaxInt - 7} {
			if 0 <= at && at <= place && place-at < 3 {
				continue
			}
			for _, e := range []api.Expr{of(api.Is, ref(place)), of(api.Not, of(api.Eq, ref(place), lit(num(3))))} {
				j := join{t: tableT(), at: at, ahead: [][]api.Value{nil}, own: rowsT(), followed: [][]api.Value{nil}}
				finds(t, c, tr, j, e)
			}
		}
	}
}

// Two indexes of one name have their keys among each other; one without a name
// is in no way.
func TestCatalogsThatAreNotGood(t *testing.T) {
	x := api.Index{Name: "i", Table: "t", Col: "b"}
	for _, c := range []api.Catalog{
		{Tables: catalog().Tables, Indexes: []api.Index{x, {Name: "i", Table: "t", Col: "c"}}},
		{Tables: catalog().Tables, Indexes: []api.Index{{Name: "i", Table: "tt", Col: "b"}, x}},
		{Tables: catalog().Tables, Indexes: []api.Index{{Name: "i", Table: "tt", Col: "b"}, {Name: "i", Table: "u", Col: "id"}, x, x, x}},
		{Indexes: []api.Index{x}},
		{Tables: catalog().Tables, Indexes: []api.Index{{Table: "t", Col: "b"}, {Table: "t", Col: "c"}}},
	} {
		tr := filled(c)
		for _, e := range tests(edges()) {
			finds(t, c, tr, joins()[0], e)
		}
	}
}

// A table that the catalog has otherwise, and columns of one name: an index is
// of the first one.
func TestTablesThatAreNotGood(t *testing.T) {
	c := catalog("i", "ii", "j")
	x := api.Table{Name: "t", Cols: []api.Col{{Name: "c"}, {Name: "b"}, {Name: "b"}}}
	var tr api.Tree
	for _, r := range rowsT() {
		tr = Put(tr, c, x, r)
	}
	for _, e := range tests(edges()) {
		finds(t, c, tr, join{x, 0, [][]api.Value{nil}, rowsT(), [][]api.Value{nil}}, e)
	}
}

// What a call answers hangs on its arguments alone.
func TestChooseTwice(t *testing.T) {
	c := catalog("i", "ii", "j")
	for _, e := range tests(edges()) {
		a, b := Choose(c, tableT(), 0, e), Choose(c, tableT(), 0, e)
		if a != b || !reflect.DeepEqual(Rows(filled(c), tableT(), a), Rows(filled(c), tableT(), b)) {
			t.Errorf("%s: %q, %q", told(e), a, b)
		}
	}
}
