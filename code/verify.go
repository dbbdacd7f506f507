package code

import (
	"slices"

	"quern/api"
)

// canRun tells whether a module can be run, with so many states.
func canRun(m api.Module, states int) bool {
	if !within(states, 0, api.MaxSlots) || len(m.Funcs) > api.MaxFuncs || len(m.Consts) > api.MaxCode {
		return false
	}
	if slices.ContainsFunc(m.Consts, func(v api.Value) bool { return Type(v) == "" }) {
		return false
	}
	for n, f := range m.Funcs {
		// A function sees those below it alone, which were looked at already.
		s := scope{f: f, consts: len(m.Consts), states: states, below: m.Funcs[:n]}
		if !s.isFramed() || !s.hasFineCode() || !s.isLevel() {
			return false
		}
	}
	return true
}

func within(x, low, high int) bool { return low <= x && x <= high }

// scope is a function and what its instructions can name.
type scope struct {
	f      api.Func
	consts int
	states int
	below  []api.Func
}

// isFramed tells whether all but the instructions is as it may be.
func (s scope) isFramed() bool {
	return within(s.f.Params, 0, api.MaxParams) &&
		within(s.f.Locals, s.f.Params, api.MaxStack) &&
		within(s.f.Zero, 0, s.consts-1) &&
		within(s.f.Stack, 1, api.MaxStack) &&
		within(len(s.f.Code), 1, api.MaxCode)
}

// hasFineCode tells whether each instruction is one of the table, with an A that it may have.
func (s scope) hasFineCode() bool {
	for _, in := range s.f.Code {
		if low, high := s.ends(in.Op); !within(in.A, low, high) {
			return false
		}
	}
	return true
}

// ends answers the least and the greatest A of an Op; of no Op that there is, and where there is nothing to name, the greatest is below the least.
func (s scope) ends(op int) (int, int) {
	switch op {
	case Const:
		return 0, s.consts - 1
	case Load, Store:
		return 0, s.f.Locals - 1
	case Get, Set:
		return 0, s.states - 1
	case Jump, Unless:
		return 0, len(s.f.Code) - 1
	case Call:
		return 0, len(s.below) - 1
	case Charge:
		return 0, api.MaxNum
	case Binary:
		return api.OpEq, api.OpMod // the others are jumps
	case Pop, Ret, Neg, Not, Len, Str, Has, At, Push, Put, Del:
		return 0, 0
	}
	return 0, -1
}

// pops answers how many values an instruction takes off the stack.
func (s scope) pops(in api.Instr) int {
	switch in.Op {
	case Store, Set, Pop, Unless, Ret, Neg, Not, Len, Str:
		return 1
	case Binary, Has, At, Push, Del:
		return 2
	case Put:
		return 3
	case Call:
		return s.below[in.A].Params
	}
	return 0
}

// pushes answers how many values an instruction lays on the stack.
func pushes(op int) int {
	switch op {
	case Store, Set, Pop, Jump, Unless, Ret, Charge:
		return 0
	}
	return 1
}

// isLevel tells whether each place that is reached has one height, which the stack can have.
func (s scope) isLevel() bool {
	w := walk{heights: make([]int, len(s.f.Code))}
	if !w.reach(0, 0) {
		return false
	}
	for len(w.todo) > 0 {
		at := w.todo[len(w.todo)-1]
		w.todo = w.todo[:len(w.todo)-1]
		in := s.f.Code[at]
		left := w.height(at) - s.pops(in)
		h := left + pushes(in.Op)
		if left < 0 || h > s.f.Stack || !w.goOn(at, in, h) {
			return false
		}
	}
	return true
}

// walk goes through a function's code along all its ways, each place once.
type walk struct {
	heights []int // each one more than it is: 0 is a place that wasn't reached yet
	todo    []int // places reached that weren't looked at yet
}

func (w *walk) height(at int) int { return w.heights[at] - 1 }

// reach notes that a place is come to with a height; false: there is no such place, or it has another height.
func (w *walk) reach(at, h int) bool {
	if at >= len(w.heights) {
		return false
	}
	if w.heights[at] == 0 {
		w.heights[at] = h + 1
		w.todo = append(w.todo, at)
	}
	return w.height(at) == h
}

// goOn reaches what comes behind an instruction.
func (w *walk) goOn(at int, in api.Instr, h int) bool {
	switch in.Op {
	case Jump:
		return w.reach(in.A, h)
	case Unless:
		return w.reach(at+1, h) && w.reach(in.A, h)
	case Ret:
		return true
	}
	return w.reach(at+1, h)
}
