package syntax

import (
	"askance/api"
	"askance/value"
)

// operation is what a word between two expressions makes of them.
type operation struct {
	word string
	op   int
}

func node(op int, args ...api.Expr) api.Expr {
	return api.Expr{Op: op, L: args}
}

func lit(v api.Value) api.Expr {
	return api.Expr{Op: api.Lit, V: v}
}

func (r *reader) expression() api.Expr {
	return r.chain(r.conjunction, operation{"or", api.Or})
}

// conjunction is tests with `and` between.
func (r *reader) conjunction() api.Expr {
	return r.chain(r.test, operation{"and", api.And})
}

func (r *reader) test() api.Expr {
	if r.skip("not") {
		return node(api.Not, r.deeper(r.test))
	}
	e := r.sum()
	if r.skip("is") {
		r.want("null")
		return node(api.Is, e)
	}
	if op := r.skipOne(operation{"=", api.Eq}, operation{"<", api.Lt}); op != 0 {
		return node(op, e, r.sum())
	}
	return e
}

func (r *reader) sum() api.Expr {
	return r.chain(r.atom, operation{"+", api.Plus}, operation{"-", api.Minus})
}

// chain is what part reads, again and again while there are operations behind,
// put together from the left on.
func (r *reader) chain(part func() api.Expr, between ...operation) api.Expr {
	e := part()
	for op := r.skipOne(between...); op != 0; op = r.skipOne(between...) {
		e = node(op, e, part())
	}
	return e
}

// skipOne is which operation the word at hand is, behind which it goes; 0: none
// of them.
func (r *reader) skipOne(of ...operation) int {
	for _, o := range of {
		if r.skip(o.word) {
			return o.op
		}
	}
	return 0
}

// deeper is what one reads within a bracket or a `not` more.
func (r *reader) deeper(one func() api.Expr) api.Expr {
	if r.depth == api.MaxDepth-1 {
		r.fail()
		return api.Expr{}
	}
	r.depth++
	e := one()
	r.depth--
	return e
}

func (r *reader) atom() api.Expr {
	switch {
	case r.skip("("):
		e := r.deeper(r.expression)
		r.want(")")
		return e
	case r.skip("null"):
		return lit(api.Value{})
	case r.skip("-"):
		return lit(api.Value{Kind: api.Int, N: -r.number()})
	case r.begins(digit):
		return lit(api.Value{Kind: api.Int, N: r.number()})
	case r.begins(isQuote):
		return lit(r.text())
	}
	return r.ref()
}

func isQuote(c byte) bool { return c == quote }

// text is what stands between the quotes of the word at hand.
func (r *reader) text() api.Value {
	v := api.Value{Kind: api.Text, S: r.word[1 : len(r.word)-1]}
	if !value.Good(v) {
		r.fail()
		return api.Value{}
	}
	r.next()
	return v
}

// ref is a column's name, with or without its table's name ahead.
func (r *reader) ref() api.Expr {
	name := r.name()
	if r.skip(".") {
		return api.Expr{Op: api.Ref, S: name, Name: r.name()}
	}
	return api.Expr{Op: api.Ref, Name: name}
}
