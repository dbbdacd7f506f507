package vm

import (
	"slices"

	"quern/api"
	"quern/code"
	"quern/sem"
	"quern/value"
)

// machine is a run under way. Values may share memory in it, with what was handed in too: none is ever changed in its place, as layers 9 and 11 answer new ones.
type machine struct {
	module api.Module
	doings []doing
	states []api.Value
	fuel   int
}

// frame is a function under way within a run.
type frame struct {
	*machine
	locals []api.Value
	stack  []api.Value
	next   int // the place behind the instruction that is done
	done   bool
	answer api.Value
}

// doing is what an Op's instructions do to a frame; a is the instruction's A. The module can be run, so that whatever A names is there, and so are the values that are popped.
type doing func(f *frame, a int)

// doings answers what the instructions do, by their Op.
func doings() []doing {
	return []doing{
		code.Const:  func(f *frame, a int) { f.push(f.module.Consts[a]) },
		code.Load:   func(f *frame, a int) { f.push(f.locals[a]) },
		code.Store:  func(f *frame, a int) { f.locals[a] = f.pop() },
		code.Get:    func(f *frame, a int) { f.push(f.states[a]) },
		code.Set:    func(f *frame, a int) { f.states[a] = f.pop() },
		code.Pop:    func(f *frame, _ int) { f.pop() },
		code.Jump:   (*frame).jump,
		code.Unless: (*frame).unless,
		code.Call:   (*frame).call,
		code.Ret:    (*frame).ret,
		code.Charge: (*frame).charge,
		code.Binary: (*frame).binary,
		code.Neg:    ofOne(sem.Neg),
		code.Not:    (*frame).not,
		code.Len:    (*frame).length,
		code.Str:    ofOne(sem.Str),
		code.Has:    (*frame).has,
		code.At:     ofTwo(value.At),
		code.Push:   ofTwo(value.Push),
		code.Put:    (*frame).put,
		code.Del:    ofTwo(value.Del),
	}
}

// ofOne makes a doing of what makes one value of another.
func ofOne(made func(api.Value) (api.Value, api.Errno)) doing {
	return func(f *frame, _ int) { f.push(must(made(f.pop()))) }
}

// ofTwo makes a doing of what makes one value of two.
func ofTwo(made func(x, y api.Value) (api.Value, api.Errno)) doing {
	return func(f *frame, _ int) {
		l := f.pops(2)
		f.push(must(made(l[0], l[1])))
	}
}

// trap is what a run gives up with, by panic.
type trap struct{ e api.Errno }

// must answers what a call of layer 9 or 11 answers, and gives up at its error.
func must[T any](x T, e api.Errno) T {
	if e != api.OK {
		panic(trap{e})
	}
	return x
}

// trapOf answers what a run was given up with. Nothing else than a trap should be thrown: if it is, the code is to blame.
func trapOf(thrown any) api.Errno {
	if t, ok := thrown.(trap); ok {
		return t.e
	}
	return api.ErrCode
}

// charge takes fuel.
func (k *machine) charge(units int) {
	if k.fuel < units {
		k.fuel = 0
		panic(trap{api.ErrFuel})
	}
	k.fuel -= units
}

// function does a function, and answers what it answers.
func (k *machine) function(n int, args []api.Value) api.Value {
	fn := k.module.Funcs[n]
	rest := slices.Repeat([]api.Value{value.Int(0)}, fn.Locals-fn.Params)
	f := &frame{machine: k, locals: slices.Concat(args, rest)}
	for !f.done {
		in := fn.Code[f.next]
		f.next++
		k.doings[in.Op](f, in.A)
	}
	return f.answer
}

func (f *frame) push(v api.Value) { f.stack = append(f.stack, v) }

func (f *frame) pop() api.Value { return f.pops(1)[0] }

// pops takes values off the stack, and answers them in the order in which they were pushed. They are there until the next push alone, as they stay in the stack's memory.
func (f *frame) pops(n int) []api.Value {
	left := len(f.stack) - n
	out := f.stack[left:]
	f.stack = f.stack[:left]
	return out
}

// truth pops a value, and answers it as a truth; one that is none is a trap.
func (f *frame) truth() bool {
	v := f.pop()
	if v.Kind != api.VBool {
		panic(trap{api.ErrCode})
	}
	return v.Num == 1
}

// jump goes on at a place. A way back costs a unit, so that every run ends.
func (f *frame) jump(to int) {
	if to < f.next {
		f.charge(1)
	}
	f.next = to
}

func (f *frame) unless(to int) {
	if !f.truth() {
		f.jump(to)
	}
}

func (f *frame) call(n int) {
	args := f.pops(f.module.Funcs[n].Params)
	f.charge(1)
	f.push(f.function(n, args))
}

func (f *frame) ret(int) {
	f.answer = f.pop()
	f.done = true
}

func (f *frame) binary(op int) {
	l := f.pops(2)
	f.push(must(sem.Binary(op, l[0], l[1])))
}

func (f *frame) not(int) { f.push(value.Bool(!f.truth())) }

func (f *frame) length(int) { f.push(value.Int(must(value.Len(f.pop())))) }

func (f *frame) has(int) {
	l := f.pops(2)
	f.push(value.Bool(must(value.Has(l[0], l[1]))))
}

func (f *frame) put(int) {
	l := f.pops(3)
	f.push(must(value.Put(l[0], l[1], l[2])))
}
