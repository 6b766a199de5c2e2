package plan

import (
	"math"
	"slices"
	"testing"

	"askance/api"
	"askance/tree"
)

func TestAll(t *testing.T) {
	for _, c := range catalogs() {
		tr := filled(c)
		leads(t, tr, tableT(), All("t"), inOrder(rowsT()))
		leads(t, tr, tableTT(), All("tt"), inOrder(rowsTT()))
		leads(t, tr, tableU(), All("u"), inOrder(rowsU()))
		for _, name := range []string{"", "a", "s", "ttt", "i", "v", "T", "t\x00", "\xff", "r", "x"} {
			x := tableT()
			x.Name = name
			leads(t, tr, x, All(name), nil)
		}
		leads(t, api.Tree{}, tableT(), All("t"), nil)
	}
}

// Rows of one value that is all that they have, at all edges of values.
func TestAllOfOneColumn(t *testing.T) {
	for _, x := range []api.Table{
		{Name: "n", Cols: []api.Col{{Name: "a", Type: api.Int, Must: true}}},
		{Name: "abcdefgh", Cols: []api.Col{{Name: "a", Type: api.Text, Must: true}}},
	} {
		ids := []api.Value{num(-api.MaxNumber), num(-65536), num(-256), num(-1), num(0), num(1), num(255), num(256), num(65535), num(api.MaxNumber)}
		if x.Cols[0].Type == api.Text {
			ids = []api.Value{str(""), str(" "), str("  "), str("A"), str("a"), str("a "), str("aa"), str("b"), str("~~~~~~~~")}
		}
		var tr api.Tree
		var want [][]api.Value
		for i := range ids {
			tr = Put(tr, api.Catalog{}, x, row(ids[(i*3+1)%len(ids)]))
			tr = Put(tr, api.Catalog{}, x, row(ids[i]))
			want = append(want, row(ids[i]))
		}
		leads(t, tr, x, All(x.Name), want)
		for i := range ids {
			got := Rows(tr, x, Choose(api.Catalog{}, x, 0, of(api.Eq, ref(0), lit(ids[i]))))
			if !sameRows(got, want[i:i+1]) {
				t.Errorf("%v: %v", ids[i], got)
			}
		}
	}
}

// By an index to rows with some value.
func TestByIndex(t *testing.T) {
	c := catalog("i", "ii")
	tr := filled(c)
	index := func(name, lo, hi string) api.Way {
		return api.Way{Index: name, Lo: "x" + name + "\x00" + lo, Hi: "x" + name + "\x00" + hi}
	}
	some := func(keep func(r []api.Value) bool) [][]api.Value {
		return slices.DeleteFunc(inOrder(rowsT()), func(r []api.Value) bool { return !keep(r) })
	}
	leads(t, tr, tableT(), index("i", "", "\xff"), inOrder(rowsT()))
	leads(t, tr, tableT(), index("ii", "", "\xff"), inOrder(rowsT()))
	leads(t, tr, tableT(), index("i", "\x03x\x00", "\x03x\x01"), some(func(r []api.Value) bool { return r[1] == str("x") }))
	leads(t, tr, tableT(), index("i", "\x01", "\x02"), some(func(r []api.Value) bool { return r[1] == api.Value{} }))
	leads(t, tr, tableT(), index("ii", coded(num(3)), coded(num(4))), some(func(r []api.Value) bool { return r[2] == num(3) }))
	leads(t, tr, tableT(), index("i", "\xff", ""), nil)
	leads(t, tr, tableT(), index("j", "", "\xff"), nil)
}

// Index keys that lead to no row, several that lead to one, and texts that are
// no index keys are all in the way of nobody.
func TestOddTrees(t *testing.T) {
	c := catalog("i")
	tr := filled(c)
	for _, key := range []string{
		IndexKey("i", str("x"), num(99)), IndexKey("i", str("q"), num(3)), IndexKey("i", api.Value{}, num(3)), IndexKey("i", str("x"), str("x")),
		"xi\x00", "xi\x00\x01", "xi\x00\x01\x01\x01", "xi\x00\x05", "xi\x00\x02\x40", "xi\x00\x03x\x00\x09", "\x01\x01", coded(num(3), num(3)), "x", "xi", "z",
	} {
		tr = tree.Put(tr, key, "")
	}
	leads(t, tr, tableT(), api.Way{Index: "i", Lo: "xi\x00", Hi: "xi\x01"}, inOrder(rowsT()))
	leads(t, tr, tableT(), api.Way{Index: "i", Lo: "", Hi: "\xff"}, inOrder(rowsT()))
	leads(t, tr, tableT(), All("t"), inOrder(rowsT()))

	for _, text := range []string{"", "\x00", "x", "\x02", coded(num(9)), coded(num(9), num(9)), coded(num(9), num(9), num(9), num(9)), coded(num(9), num(9), num(9)) + "\x04"} {
		odd := tree.Put(tr, RowKey("t", num(9)), text)
		odd = tree.Put(odd, IndexKey("i", str("x"), num(9)), "")
		leads(t, odd, tableT(), All("t"), inOrder(rowsT()))
		leads(t, odd, tableT(), api.Way{Index: "i", Lo: "xi\x00", Hi: "xi\x01"}, inOrder(rowsT()))
	}
}

// Keys that are none of an index lead nowhere, even if they have a row's first value.
func TestKeysOfNoIndex(t *testing.T) {
	tr := Put(api.Tree{}, api.Catalog{}, tableT(), rowsT()[0])
	pair, w := coded(str("x"), rowsT()[0][0]), api.Way{Index: "i", Lo: "", Hi: "\xff"}
	for _, key := range []string{"xi\x00" + pair + coded(num(1)), pair, "xii\x00" + pair, "xi" + pair, "i\x00" + pair, "ri\x00" + pair} {
		tr = tree.Put(tr, key, "")
	}
	leads(t, tr, tableT(), w, nil)
	leads(t, tree.Put(tr, "xi\x00"+pair, ""), tableT(), w, rowsT()[:1])
}

func TestOddWays(t *testing.T) {
	tr := filled(catalog("i", "t"))
	rows := inOrder(rowsT())
	for _, one := range []struct {
		w    api.Way
		want [][]api.Value
	}{
		{api.Way{}, nil},
		{api.Way{Lo: "rt\x01", Hi: "rt\x00"}, nil},
		{api.Way{Lo: "rt\x00", Hi: "rt\x00"}, nil},
		{api.Way{Lo: "x", Hi: "y"}, nil},
		{api.Way{Lo: RowKey("t", rows[2][0]), Hi: RowKey("t", rows[5][0])}, rows[2:5]},
		{api.Way{Lo: "", Hi: RowKey("t", rows[5][0])}, rows[:5]},
		{api.Way{Index: "i", Lo: "rt\x00", Hi: "rt\x01"}, nil},
		{api.Way{Index: "t", Lo: "rt\x00", Hi: "rt\x01"}, nil},
		{api.Way{Index: "nope", Lo: "", Hi: "\xff"}, nil},
		{api.Way{Index: "i\x00", Lo: "", Hi: "\xff"}, nil},
	} {
		leads(t, tr, tableT(), one.w, one.want)
	}
}

// Whatever the arguments are, each call ends and none panics.
func TestAnyArguments(t *testing.T) {
	texts := []string{"", "t", "i", "\x00", "\xff", "rt\x00", "xi\x00", "\x01\x01"}
	trees := []api.Tree{{}, filled(catalog("i")), {Pages: []api.Page{{}}}, {Pages: []api.Page{{Keys: []string{"", "\x01\x01", "r\x00"}, Vals: []string{"", "", coded(num(1))}}}}}
	tables := []api.Table{{}, tableT(), {Name: "t"}, {Name: "\xff", Cols: make([]api.Col, 3)}, {Cols: make([]api.Col, 1000)}}
	cats := []api.Catalog{{}, catalog("i"), {Indexes: make([]api.Index, 9)}, {Indexes: []api.Index{{Name: "i", Table: "t"}, {Table: "\xff"}}}}
	rows := append([][]api.Value{nil, badValues(), badValues()[:3], make([]api.Value, 1000)}, rowsT()...)
	for _, tr := range trees {
		for _, x := range tables {
			for _, index := range texts {
				for _, lo := range texts {
					Rows(tr, x, api.Way{Index: index, Lo: lo, Hi: "\xff\xff"})
					Rows(tr, x, api.Way{Index: index, Lo: "", Hi: lo})
				}
			}
			for _, c := range cats {
				for _, r := range rows {
					Drop(Put(tr, c, x, r), c, x, r)
				}
				for _, at := range []int{0, 1, -1, math.MaxInt, math.MinInt} {
					Choose(c, x, at, of(api.Eq, ref(at), lit(num(1))))
				}
			}
		}
	}
}
