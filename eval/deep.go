package eval

import "askance/api"

// maxCalls is how many calls may be within each other on the way down an
// expression: far more than a command's expressions need, and far fewer than
// the stack has room for.
const maxCalls = 1000

// evalWithin calls itself on arguments, with at most that many calls within it.
func evalWithin(e api.Expr, row []api.Value, calls int) api.Value {
	if calls <= 0 {
		return evalFlat(e, row)
	}
	var came [2]api.Value
	args := arguments(e)
	for i, a := range args {
		came[i] = evalWithin(a, row, calls-1)
	}
	return apply(e, came[:len(args)], row)
}

// evalFlat makes no calls within each other: nobody can catch that a stack has
// no more room, and how deep an expression may be is not bounded.
func evalFlat(e api.Expr, row []api.Value) api.Value {
	all := withArguments(e)
	came := make([]api.Value, len(all))
	// Arguments stand behind what they belong to, and in the same order: from
	// the end on, those of each are the last ones that nobody has taken yet.
	end := len(all)
	for i := len(all) - 1; i >= 0; i-- {
		begin := end - len(arguments(*all[i]))
		came[i] = apply(*all[i], came[begin:end], row)
		end = begin
	}
	return came[0]
}

// withArguments is an expression, then its arguments, then theirs, and so on.
func withArguments(e api.Expr) []*api.Expr {
	all := []*api.Expr{&e}
	for i := 0; i < len(all); i++ {
		args := arguments(*all[i])
		for k := range args {
			all = append(all, &args[k])
		}
	}
	return all
}
