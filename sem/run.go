package sem

import (
	"quern/api"
	"quern/value"
)

// run is a handler under way. Values may share memory in it, with what was handed in too: none is ever changed in its place, as layer 9 answers new ones.
type run struct {
	fns    []api.Fn
	states []api.Value
	fuel   int
}

// frame is a function under way within a run.
type frame struct {
	*run
	locals []api.Value
	answer api.Value
}

// trap is what a run gives up with, by panic.
type trap struct{ e api.Errno }

// must answers what a call of layer 9 or of this one answers, and gives up at its error.
func must[T any](x T, e api.Errno) T {
	if e != api.OK {
		panic(trap{e})
	}
	return x
}

// trapOf answers what a run was given up with. A program that no check answered may name what isn't there: all else that is thrown is code that can't be.
func trapOf(thrown any) api.Errno {
	if t, ok := thrown.(trap); ok {
		return t.e
	}
	return api.ErrCode
}

// charge takes fuel. It never gives any back, so that every run ends.
func (r *run) charge(n int) {
	if r.fuel < n {
		r.fuel = 0
		panic(trap{api.ErrFuel})
	}
	r.fuel -= max(n, 0)
}

// function does a function. Its locals behind the arguments have no value yet, as none is in sight ahead of its let or for.
func (r *run) function(n int, args []api.Value) api.Value {
	fn := r.fns[n]
	f := &frame{run: r, locals: make([]api.Value, len(fn.Locals)), answer: value.Zero(fn.Result)}
	copy(f.locals, args)
	f.block(fn.Body)
	return f.answer
}

// block does statements, and tells whether the function is done: a ret was among them.
func (f *frame) block(l []api.Stmt) bool {
	for _, s := range l {
		if f.statement(s) {
			return true
		}
	}
	return false
}

// statement does one, and tells whether the function is done. What a set or a del names is looked at behind its exprs, which may have changed it.
func (f *frame) statement(s api.Stmt) bool {
	e := f.exprs(s.E)
	switch s.Kind {
	case api.SLet:
		f.locals[s.Slot] = e[0]
	case api.SSet:
		f.set(f.place(s), e)
	case api.SDel:
		place := f.place(s)
		*place = must(value.Del(*place, e[0]))
	case api.SIf:
		if isTrue(e[0]) {
			return f.block(s.Body)
		}
		return f.block(s.Else)
	case api.SFor:
		return f.loop(s, e[0].Num)
	case api.SRet:
		f.answer = e[0]
		return true
	case api.SCharge:
		f.charge(s.Num)
	}
	return false
}

// place answers where the local or the state stands that a statement names.
func (f *frame) place(s api.Stmt) *api.Value {
	if s.State {
		return &f.states[s.Slot]
	}
	return &f.locals[s.Slot]
}

func (f *frame) set(place *api.Value, e []api.Value) {
	if len(e) == 1 {
		*place = e[0]
		return
	}
	*place = must(value.Put(*place, e[0], e[1]))
}

// loop does a for of so many turns, and tells whether the function is done.
func (f *frame) loop(s api.Stmt, turns int) bool {
	for i := range turns {
		f.charge(1)
		f.locals[s.Slot] = value.Int(i)
		if f.block(s.Body) {
			return true
		}
	}
	return false
}

func isTrue(v api.Value) bool { return v.Num == 1 }

func (f *frame) exprs(l []api.Expr) []api.Value {
	var out []api.Value
	for _, x := range l {
		out = append(out, f.expr(x))
	}
	return out
}

func (f *frame) expr(x api.Expr) api.Value {
	switch x.Kind {
	case api.EInt:
		return value.Int(x.Num)
	case api.EBool:
		return value.Bool(x.Num == 1)
	case api.EText:
		return value.Text(x.Text)
	case api.ELocal:
		return f.locals[x.Slot]
	case api.EState:
		return f.states[x.Slot]
	case api.EBin:
		if x.Op == api.OpOr || x.Op == api.OpAnd {
			return f.decided(x)
		}
	}
	return f.made(x, f.exprs(x.Args))
}

// decided answers what && or || says: its second side isn't reckoned where the first one decides.
func (f *frame) decided(x api.Expr) api.Value {
	first := f.expr(x.Args[0])
	if isTrue(first) == (x.Op == api.OpOr) {
		return first
	}
	return f.expr(x.Args[1])
}

// made answers what an expr makes of the values of its Args.
func (f *frame) made(x api.Expr, args []api.Value) api.Value {
	switch x.Kind {
	case api.ECall:
		f.charge(1)
		return f.function(x.Slot, args)
	case api.ELen:
		return value.Int(must(value.Len(args[0])))
	case api.EHas:
		return value.Bool(must(value.Has(args[0], args[1])))
	case api.EPush:
		return must(value.Push(args[0], args[1]))
	case api.EStr:
		return must(Str(args[0]))
	case api.EAt:
		return must(value.At(args[0], args[1]))
	case api.ENeg:
		return must(Neg(args[0]))
	case api.ENot:
		return value.Bool(!isTrue(args[0]))
	}
	return must(Binary(x.Op, args[0], args[1]))
}
