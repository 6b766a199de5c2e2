package value

import (
	"cmp"
	"slices"
	"strings"
	"testing"

	"askance/api"
)

// keys are lists of values, and the key of each, byte by byte.
func keys() []struct {
	list []api.Value
	key  string
} {
	return []struct {
		list []api.Value
		key  string
	}{
		{nil, ""},
		{[]api.Value{{}}, "\x01"},
		{[]api.Value{{}, {}, {}}, "\x01\x01\x01"},
		{[]api.Value{number(0)}, "\x02\x40\x00\x00\x00"},
		{[]api.Value{number(1)}, "\x02\x40\x00\x00\x01"},
		{[]api.Value{number(-1)}, "\x02\x3f\xff\xff\xff"},
		{[]api.Value{number(258)}, "\x02\x40\x00\x01\x02"},
		{[]api.Value{number(66051)}, "\x02\x40\x01\x02\x03"},
		{[]api.Value{number(api.MaxNumber)}, "\x02\x40\x0f\x42\x40"},
		{[]api.Value{number(-api.MaxNumber)}, "\x02\x3f\xf0\xbd\xc0"},
		{[]api.Value{text("")}, "\x03\x00"},
		{[]api.Value{text(" ~&(")}, "\x03 ~&(\x00"},
		{[]api.Value{text("abcdefgh")}, "\x03abcdefgh\x00"},
		{[]api.Value{text(""), text("")}, "\x03\x00\x03\x00"},
		{[]api.Value{number(7), {}, text("x"), number(-7)}, "\x02\x40\x00\x00\x07\x01\x03x\x00\x02\x3f\xff\xff\xf9"},
	}
}

func TestKey(t *testing.T) {
	for _, c := range keys() {
		if got, e := Key(c.list); got != c.key || e != api.OK {
			t.Errorf("%#v: %q, %d, not %q", c.list, got, e, c.key)
		}
	}
	if got, e := Key([]api.Value{}); got != "" || e != api.OK {
		t.Errorf("a list without elements: %q, %d", got, e)
	}
}

func TestKeyOfWhatIsNotGood(t *testing.T) {
	for _, v := range notGood() {
		for _, l := range [][]api.Value{{v}, {v, number(1)}, {number(1), v, text("a")}, {text("a"), {}, v}, {v, v}} {
			if got, e := Key(l); got != "" || e != api.ErrForm {
				t.Errorf("%#v: %q, %d", l, got, e)
			}
		}
	}
}

// lists are all lists of up to two of the rising values.
func lists() [][]api.Value {
	all := [][]api.Value{{}}
	for _, a := range rising() {
		all = append(all, []api.Value{a})
		for _, b := range rising() {
			all = append(all, []api.Value{a, b})
		}
	}
	return all
}

func TestKeysAreOrderedAsValues(t *testing.T) {
	all := lists()
	for _, a := range all {
		for _, b := range all {
			x, _ := Key(a)
			y, _ := Key(b)
			if want := slices.CompareFunc(a, b, Compare); cmp.Compare(x, y) != want {
				t.Fatalf("%#v, %#v: %q, %q", a, b, x, y)
			}
		}
	}
}

func TestKeyLeavesItsListAsItWas(t *testing.T) {
	room := slices.Repeat(rising(), 2)
	before := slices.Clone(room)
	Key(room[:len(room)/2])
	Key(append(room[:1:1], number(api.MaxNumber+1)))
	if !slices.Equal(room, before) {
		t.Error("the list or its spare room was changed")
	}
}

func TestValues(t *testing.T) {
	for _, c := range keys() {
		if got, e := Values(c.key); !slices.Equal(got, c.list) || e != api.OK {
			t.Errorf("%q: %#v, %d, not %#v", c.key, got, e, c.list)
		}
	}
}

func TestValuesOfKeys(t *testing.T) {
	for _, l := range append(lists(), rising(), slices.Repeat(rising(), 1000)) {
		key, _ := Key(l)
		if got, e := Values(key); !slices.Equal(got, l) || e != api.OK {
			t.Fatalf("%q: %#v, %d", key, got, e)
		}
	}
}

func refuses(t *testing.T, s string) {
	t.Helper()
	if got, e := Values(s); len(got) != 0 || e != api.ErrForm {
		t.Errorf("%q: %#v, %d", s, got, e)
	}
}

func TestValuesOfWhatIsNoKey(t *testing.T) {
	wrong := []string{
		"\x00", "\x04", "\xff", "a", "\x04\x40\x00\x00\x00",
		"\x02", "\x02\x40", "\x02\x40\x00", "\x02\x40\x00\x00",
		"\x02\x40\x0f\x42\x41", "\x02\x3f\xf0\xbd\xbf",
		"\x02\x00\x00\x00\x00", "\x02\x00\x00\x00\x01", "\x02\x80\x00\x00\x00", "\x02\xc0\x00\x00\x00", "\x02\xff\xff\xff\xff",
		"\x03", "\x03a", "\x03abcdefgh", "\x03abcdefghi", "\x03abcdefghi\x00",
		"\x03\x1f\x00", "\x03\x7f\x00", "\x03\xff\x00", "\x03\n\x00", "\x03'\x00", "\x03it's\x00", "\x03a\x01\x00", "\x03\x03\x00",
		"\x03\x00\x00", "\x03a\x00\x00", "\x03a\x00b\x00",
		"\x03" + strings.Repeat("a", 100000), "\x03" + strings.Repeat("a", 100000) + "\x00",
	}
	for _, s := range wrong {
		refuses(t, s)
		refuses(t, "\x01"+s)
		refuses(t, "\x02\x40\x00\x00\x07\x03x\x00"+s)
	}
	for _, s := range wrong[:5] {
		refuses(t, s+"\x01")
		refuses(t, "\x03a\x00"+s+"\x03a\x00")
	}
}

func TestValuesOfNumbersAtTheirBounds(t *testing.T) {
	for d := -300; d <= 300; d++ {
		for _, bound := range []int{-api.MaxNumber, api.MaxNumber} {
			n := bound + d
			m := uint32(n + 1073741824)
			s := string([]byte{2, byte(m >> 24), byte(m >> 16), byte(m >> 8), byte(m)})
			got, e := Values(s)
			if n < -api.MaxNumber || n > api.MaxNumber {
				refuses(t, s)
			} else if e != api.OK || len(got) != 1 || got[0] != number(n) {
				t.Errorf("%d: %#v, %d", n, got, e)
			}
		}
	}
}

// Of the texts of up to two bytes just the keys of these four lists are any.
func TestValuesOfAllShortTexts(t *testing.T) {
	good := map[string][]api.Value{"": nil, "\x01": {{}}, "\x01\x01": {{}, {}}, "\x03\x00": {text("")}}
	check := func(s string) {
		want, ok := good[s]
		got, e := Values(s)
		if (e == api.OK) != ok || (e == api.ErrForm) == ok || !slices.Equal(got, want) {
			t.Errorf("%q: %#v, %d", s, got, e)
		}
	}
	check("")
	for c := range 256 {
		check(string([]byte{byte(c)}))
		for d := range 256 {
			check(string([]byte{byte(c), byte(d)}))
		}
	}
}

// A key that is cut short is the key of fewer values, or none.
func TestValuesOfKeysCutShort(t *testing.T) {
	l := rising()
	key, _ := Key(l)
	whole := map[int]int{}
	for n := range len(l) + 1 {
		part, _ := Key(l[:n])
		whole[len(part)] = n
	}
	for end := range len(key) + 1 {
		n, ok := whole[end]
		if !ok {
			refuses(t, key[:end])
		} else if got, e := Values(key[:end]); e != api.OK || !slices.Equal(got, l[:n]) {
			t.Errorf("%q: %#v, %d", key[:end], got, e)
		}
	}
}

func FuzzValues(f *testing.F) {
	for _, c := range keys() {
		f.Add(c.key)
		f.Add(c.key + "\x02")
		f.Add(c.key + "\x03a")
	}
	f.Fuzz(func(t *testing.T, s string) {
		l, e := Values(s)
		if e != api.OK {
			refuses(t, s)
			return
		}
		if key, e := Key(l); key != s || e != api.OK {
			t.Errorf("%q: %#v, whose key is %q, %d", s, l, key, e)
		}
	})
}
