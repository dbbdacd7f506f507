package gen

import (
	"slices"

	"quern/api"
	"quern/code"
	"quern/value"
)

// function is a function under way. A program that no check answered may lack exprs or name what isn't there: nothing is looked up by such a number here, so that the worst that comes of it is code that can't be run.
type function struct {
	*maker
	api.Func
	spare int // the first local that nothing is kept in
	high  int // how high the stack is behind the last instruction
}

// emit adds an instruction, and answers its place.
func (f *function) emit(op, a int) int {
	f.Code = append(f.Code, api.Instr{Op: op, A: a})
	f.high += growth(op)
	f.Stack = max(f.Stack, f.high)
	return len(f.Code) - 1
}

// growth answers how much higher an instruction makes the stack. A call's arguments aren't counted, as they hang on what is called.
func growth(op int) int {
	switch op {
	case code.Const, code.Load, code.Get, code.Call:
		return 1
	case code.Store, code.Set, code.Unless, code.Ret, code.Binary, code.Has, code.At, code.Push, code.Del:
		return -1
	case code.Put:
		return -2
	}
	return 0
}

// push emits a constant.
func (f *function) push(v api.Value) { f.emit(code.Const, f.place(v)) }

// land makes the jump at a place go on at what comes next.
func (f *function) land(jump int) { f.Code[jump].A = len(f.Code) }

// either emits two ways behind a truth: one where it is true, one where it is false.
func (f *function) either(yes, no func()) {
	toNo := f.emit(code.Unless, 0)
	high := f.high
	yes()
	toEnd := f.emit(code.Jump, 0)
	f.land(toNo)
	f.high = high
	no()
	f.land(toEnd)
}

// keep emits what lays the top of the stack aside, and answers the local in which it is kept to the end of the statement.
func (f *function) keep() int {
	n := f.spare
	f.spare++
	f.Locals = max(f.Locals, f.spare)
	f.emit(code.Store, n)
	return n
}

func (f *function) block(l []api.Stmt) {
	for _, s := range l {
		spare := f.spare
		f.statement(s)
		f.spare = spare
	}
}

func (f *function) statement(s api.Stmt) {
	f.exprs(s.E)
	switch s.Kind {
	case api.SLet:
		f.emit(code.Store, s.Slot)
	case api.SSet:
		f.set(s)
	case api.SDel:
		f.change(s, code.Del)
	case api.SIf:
		f.either(func() { f.block(s.Body) }, func() { f.block(s.Else) })
	case api.SFor:
		f.loop(s)
	case api.SRet:
		f.emit(code.Ret, 0)
	case api.SCharge:
		// No run has more fuel than MaxFuel, so that of what lies above it one charge does as well as another.
		f.emit(code.Charge, min(max(s.Num, 0), api.MaxNum))
	}
}

// access answers the instructions that read and write what a statement names.
func access(s api.Stmt) (read, write int) {
	if s.State {
		return code.Get, code.Set
	}
	return code.Load, code.Store
}

func (f *function) set(s api.Stmt) {
	if len(s.E) > 1 {
		f.change(s, code.Put)
		return
	}
	_, write := access(s)
	f.emit(write, s.Slot)
}

// change emits what changes a list or a map by the values of the exprs. What it was must lie beneath them, but is read behind them, since a call among them may change it.
func (f *function) change(s api.Stmt, op int) {
	var kept []int
	for range s.E {
		kept = append(kept, f.keep())
	}
	read, write := access(s)
	f.emit(read, s.Slot)
	for _, n := range slices.Backward(kept) {
		f.emit(code.Load, n)
	}
	f.emit(op, 0)
	f.emit(write, s.Slot)
}

// loop emits a for. Each turn, the first one too, begins with a jump back, for which the machine charges the turn's unit. The for's local counts the turns, as nothing else writes it.
func (f *function) loop(s api.Stmt) {
	turns := f.keep()
	f.push(value.Int(0))
	f.emit(code.Store, s.Slot)
	toTest := f.emit(code.Jump, 0)
	body := len(f.Code)
	f.block(s.Body)
	f.emit(code.Load, s.Slot)
	f.push(value.Int(1))
	f.emit(code.Binary, api.OpAdd)
	f.emit(code.Store, s.Slot)
	f.land(toTest)
	f.emit(code.Load, s.Slot)
	f.emit(code.Load, turns)
	f.emit(code.Binary, api.OpLt)
	toEnd := f.emit(code.Unless, 0)
	f.emit(code.Jump, body)
	f.land(toEnd)
}

func (f *function) exprs(l []api.Expr) {
	for _, x := range l {
		f.expr(x)
	}
}

// expr emits what lays an expr's value on the stack.
func (f *function) expr(x api.Expr) {
	if isDecided(x) {
		f.decided(x)
		return
	}
	f.exprs(x.Args)
	if x.Kind == api.ECall {
		f.high -= len(x.Args)
	}
	f.emit(f.instruction(x))
}

// isDecided tells whether an expr is an && or ||, whose second side isn't always reckoned.
func isDecided(x api.Expr) bool {
	return x.Kind == api.EBin && (x.Op == api.OpOr || x.Op == api.OpAnd) && len(x.Args) == 2
}

func (f *function) decided(x api.Expr) {
	second := func() { f.expr(x.Args[1]) }
	f.expr(x.Args[0])
	if x.Op == api.OpAnd {
		f.either(second, func() { f.push(value.Bool(false)) })
	} else {
		f.either(func() { f.push(value.Bool(true)) }, second)
	}
}

// instruction answers the one that makes an expr's value of those of its Args.
func (f *function) instruction(x api.Expr) (op, a int) {
	switch x.Kind {
	case api.EInt:
		return code.Const, f.place(value.Int(x.Num))
	case api.EBool:
		return code.Const, f.place(value.Bool(x.Num == 1))
	case api.EText:
		return code.Const, f.place(value.Text(x.Text))
	case api.ELocal:
		return code.Load, x.Slot
	case api.EState:
		return code.Get, x.Slot
	case api.ECall:
		return code.Call, x.Slot
	case api.ELen:
		return code.Len, 0
	case api.EHas:
		return code.Has, 0
	case api.EPush:
		return code.Push, 0
	case api.EStr:
		return code.Str, 0
	case api.EAt:
		return code.At, 0
	case api.ENeg:
		return code.Neg, 0
	case api.ENot:
		return code.Not, 0
	case api.EBin:
		return code.Binary, x.Op
	}
	return 0, 0
}
