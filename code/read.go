package code

import (
	"quern/api"
	"quern/pack"
	"quern/value"
)

// read takes a module from its bytes, whether it can be run or not; false: they are no module's.
func read(b []byte) (api.Module, bool) {
	r := pack.New(b)
	consts, funcs := r.Number(), r.Number()
	m := api.Module{
		Consts: take(r, consts, api.MaxCode, readConst),
		Funcs:  take(r, funcs, api.MaxFuncs, readFunc),
	}
	return m, r.End()
}

// take takes n things, but keeps only one more than there may be: that is enough for the module to be refused, and what is kept stays small, however many are told.
func take[T any](r *pack.Reader, n, most int, one func(*pack.Reader) T) []T {
	var out []T
	for i := 0; i < n && !r.Bad(); i++ {
		if x := one(r); len(out) <= most {
			out = append(out, x)
		}
	}
	return out
}

func readConst(r *pack.Reader) api.Value {
	kind := r.Number()
	switch kind {
	case api.VInt:
		return readInt(r)
	case api.VText:
		return value.Text(string(r.Bytes(r.Number())))
	}
	return api.Value{Kind: kind, Num: r.Number()}
}

func readInt(r *pack.Reader) api.Value {
	below, n := r.Number() == 1, r.Number()
	if below {
		n = -1 - n // not -(n + 1), which would grow too great at the least number
	}
	return value.Int(n)
}

func readFunc(r *pack.Reader) api.Func {
	f := api.Func{Params: r.Number(), Locals: r.Number(), Zero: r.Number(), Stack: r.Number()}
	f.Code = take(r, r.Number(), api.MaxCode, readInstr)
	return f
}

func readInstr(r *pack.Reader) api.Instr {
	return api.Instr{Op: r.Number(), A: r.Number()}
}
