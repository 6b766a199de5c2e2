package plan

import (
	"slices"
	"testing"

	"askance/api"
)

func TestRowKey(t *testing.T) {
	for _, one := range []struct {
		table string
		id    api.Value
		want  string
	}{
		{"t", num(3), "rt\x00\x02\x40\x00\x00\x03"},
		{"t", num(0), "rt\x00\x02\x40\x00\x00\x00"},
		{"t", num(-1), "rt\x00\x02\x3f\xff\xff\xff"},
		{"t", num(api.MaxNumber), "rt\x00\x02\x40\x0f\x42\x40"},
		{"t", num(-api.MaxNumber), "rt\x00\x02\x3f\xf0\xbd\xc0"},
		{"abcdefgh", str("x"), "rabcdefgh\x00\x03x\x00"},
		{"t", str(""), "rt\x00\x03\x00"},
		{"t", str("~~~~~~~~"), "rt\x00\x03~~~~~~~~\x00"},
		{"t", api.Value{}, "rt\x00\x01"},
		{"", num(1), "r\x00\x02\x40\x00\x00\x01"},
		{"A 1\x00", num(1), "rA 1\x00\x00\x02\x40\x00\x00\x01"},
	} {
		if got := RowKey(one.table, one.id); got != one.want {
			t.Errorf("%q, %v: %q; wanted %q", one.table, one.id, got, one.want)
		}
	}
}

func TestIndexKey(t *testing.T) {
	for _, one := range []struct {
		index string
		v, id api.Value
		want  string
	}{
		{"i", str("x"), num(3), "xi\x00\x03x\x00\x02\x40\x00\x00\x03"},
		{"i", num(3), str("x"), "xi\x00\x02\x40\x00\x00\x03\x03x\x00"},
		{"i", api.Value{}, num(7), "xi\x00\x01\x02\x40\x00\x00\x07"},
		{"i", num(-256), num(255), "xi\x00\x02\x3f\xff\xff\x00\x02\x40\x00\x00\xff"},
		{"abcdefgh", str(""), str(""), "xabcdefgh\x00\x03\x00\x03\x00"},
		{"", api.Value{}, api.Value{}, "x\x00\x01\x01"},
	} {
		if got := IndexKey(one.index, one.v, one.id); got != one.want {
			t.Errorf("%q, %v, %v: %q; wanted %q", one.index, one.v, one.id, got, one.want)
		}
	}
}

// A value that is not good has no key; chapter 1's Key answers the empty text.
func TestKeysOfBadValues(t *testing.T) {
	for _, v := range badValues() {
		if got := RowKey("t", v); got != "rt\x00" {
			t.Errorf("%v: %q", v, got)
		}
		for _, got := range []string{IndexKey("i", v, num(1)), IndexKey("i", num(1), v), IndexKey("i", v, v)} {
			if got != "xi\x00" {
				t.Errorf("%v: %q", v, got)
			}
		}
	}
}

// The order of keys as texts is that of what they mean.
func TestKeysRise(t *testing.T) {
	ids := []api.Value{{}, num(-api.MaxNumber), num(-256), num(-1), num(0), num(1), num(255), num(256), num(api.MaxNumber), str(""), str(" "), str("a"), str("aa"), str("b"), str("~")}
	var keys []string
	for _, index := range []string{"i", "ii", "j"} {
		for _, v := range ids {
			for _, id := range ids {
				keys = append(keys, IndexKey(index, v, id))
			}
		}
	}
	for i := 1; i < len(keys); i++ {
		if keys[i-1] >= keys[i] {
			t.Errorf("%q is not ahead of %q", keys[i-1], keys[i])
		}
	}
	keys = nil
	for _, table := range []string{"i", "ii", "j"} {
		for _, id := range ids {
			keys = append(keys, RowKey(table, id))
		}
	}
	if !slices.IsSorted(keys) || len(slices.Compact(slices.Clone(keys))) != len(keys) {
		t.Errorf("%q", keys)
	}
}
