package plan

import (
	"askance/api"
	"askance/value"
)

// pastAll is a byte behind each that can follow the beginning of a key.
const pastAll = "\xff"

// span is values: those whose keys are from lo on, up to ahead of hi.
type span struct{ lo, hi string }

// begun is all values whose keys begin with a text.
func begun(with string) span { return span{with, with + pastAll} }

// sameKind is all values of the kind of a value: its first byte says which.
func sameKind(v api.Value) span { return begun(keyOf(v)[:1]) }

// like is the values that are like a value; or those of its kind that are not:
// they are on both sides of it, and so it is among them.
func like(v api.Value, yes bool) span {
	if yes {
		return begun(keyOf(v))
	}
	return sameKind(v)
}

// ahead is the values of its kind that are ahead of a value; or that are not.
func ahead(v api.Value, yes bool) span {
	if yes {
		return span{sameKind(v).lo, begun(keyOf(v)).lo}
	}
	return span{begun(keyOf(v)).lo, sameKind(v).hi}
}

// behind is the values of its kind that are behind a value; or that are not.
func behind(v api.Value, yes bool) span {
	if yes {
		return span{begun(keyOf(v)).hi, sameKind(v).hi}
	}
	return span{sameKind(v).lo, begun(keyOf(v)).hi}
}

func (s span) empty() bool { return s.lo >= s.hi }

// both is what is in two spans.
func (s span) both(o span) span { return span{max(s.lo, o.lo), min(s.hi, o.hi)} }

// either is what is in one of two spans, with all that is between them.
func (s span) either(o span) span {
	switch {
	case s.empty():
		return o
	case o.empty():
		return s
	}
	return span{min(s.lo, o.lo), max(s.hi, o.hi)}
}

// rank is less, the fewer rows are to be looked at: none, those of one value,
// those of some values, all.
func (s span) rank() int {
	l, _ := value.Values(s.lo)
	switch {
	case s.empty():
		return 0
	case len(l) == 1 && s == begun(s.lo):
		return 1
	case s != begun(""):
		return 2
	}
	return 3
}

// way is the one to all rows with a value of the span, where keys begin with a
// text and go on with that value.
func (s span) way(index, begin string) api.Way {
	return api.Way{Index: index, Lo: begin + s.lo, Hi: begin + s.hi}
}
