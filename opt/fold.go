package opt

import (
	"strings"

	"quern/api"
	"quern/sem"
)

// Fold: an expression, with what is always the same reckoned.
func Fold(x api.Expr) api.Expr {
	x.Text, x.Type, x.Args = strings.Clone(x.Text), strings.Clone(x.Type), each(x.Args, Fold)
	if x.Kind == api.EBin && (x.Op == api.OpOr || x.Op == api.OpAnd) {
		return side(x)
	}
	values, ok := valuesOf(x.Args)
	if !ok {
		return x
	}
	v, e := reckon(x, values)
	if e != api.OK {
		return x // the trap comes only when, and if, the run gets there
	}
	return constant(v)
}

// side answers the side of && or || that it comes to, or the expr as it is. A second side that decides is no reason to leave out the first, which may trap or take fuel.
func side(x api.Expr) api.Expr {
	if len(x.Args) != 2 {
		return x
	}
	first, second := x.Args[0], x.Args[1]
	decides := func(y api.Expr) bool { return isTrue(y) == (x.Op == api.OpOr) }
	switch {
	case first.Kind == api.EBool && decides(first):
		return first
	case first.Kind == api.EBool:
		return second
	case second.Kind == api.EBool && !decides(second):
		return first
	}
	return x
}

func isTrue(x api.Expr) bool { return x.Num == 1 }

// reckon answers what an expr makes of the values of its Args, as layer 11 says; an error, if that traps, or if it isn't one to be reckoned ahead.
func reckon(x api.Expr, args []api.Value) (api.Value, api.Errno) {
	if x.Kind == api.EBin && len(args) == 2 {
		return sem.Binary(x.Op, args[0], args[1])
	}
	if len(args) != 1 {
		return api.Value{}, api.ErrCode
	}
	a := args[0]
	switch {
	case x.Kind == api.ENeg:
		return sem.Neg(a)
	case x.Kind == api.EStr:
		return sem.Str(a)
	case x.Kind == api.ENot && a.Kind == api.VBool:
		return truth(a.Num == 0), api.OK
	case x.Kind == api.ELen && a.Kind == api.VText:
		return api.Value{Kind: api.VInt, Num: len(a.Text)}, api.OK
	}
	return api.Value{}, api.ErrCode
}

// valuesOf answers the values of constants; false, if one of the exprs is none.
func valuesOf(l []api.Expr) ([]api.Value, bool) {
	var out []api.Value
	for _, x := range l {
		v, ok := valueOf(x)
		if !ok {
			return nil, false
		}
		out = append(out, v)
	}
	return out, true
}

func valueOf(x api.Expr) (api.Value, bool) {
	switch x.Kind {
	case api.EInt:
		return api.Value{Kind: api.VInt, Num: x.Num}, true
	case api.EBool:
		return truth(isTrue(x)), true
	case api.EText:
		return api.Value{Kind: api.VText, Text: x.Text}, true
	}
	return api.Value{}, false
}

func truth(is bool) api.Value {
	v := api.Value{Kind: api.VBool}
	if is {
		v.Num = 1
	}
	return v
}

// constant answers a number, a truth or a text as an expr.
func constant(v api.Value) api.Expr {
	switch v.Kind {
	case api.VInt:
		return api.Expr{Kind: api.EInt, Num: v.Num, Type: "int"}
	case api.VBool:
		return api.Expr{Kind: api.EBool, Num: v.Num, Type: "bool"}
	}
	return api.Expr{Kind: api.EText, Text: v.Text, Type: "text"}
}
