package vm

import (
	"fmt"
	"math"
	"math/rand/v2"
	"slices"
	"strconv"
	"strings"
	"testing"

	"quern/api"
	"quern/code"
	"quern/sem"
	"quern/value"
)

const least, greatest = math.MinInt, math.MaxInt

// The plain machine does what the tables of chapters 13 and 15 say, one instruction behind the other.

type plain struct {
	module api.Module
	states []api.Value
	fuel   int
	seen   map[int]int // how often each Op was done to its end
}

// plainSound is chapter 15's first section, a sentence behind the other.
func plainSound(v api.Value) bool { return value.Weight(v) <= 16384 && plainForm(v) }

// plainForm is what is said of a value and of all that are in it.
func plainForm(v api.Value) bool {
	num, text, parts := v.Num != 0, v.Text != "", len(v.List)
	var keys []api.Value
	for i := 0; i < parts; i += 2 {
		keys = append(keys, v.List[i])
	}
	rising := slices.CompactFunc(slices.SortedFunc(slices.Values(keys), value.Compare), alike)
	fine := []bool{false,
		!text && parts == 0,
		!text && parts == 0 && (v.Num == 0 || v.Num == 1),
		!num && parts == 0 && len(v.Text) <= 256,
		!num && !text && parts <= 64,
		!num && !text && parts <= 128 && parts%2 == 0 && allAlike(keys, rising),
	}
	return v.Kind >= 1 && v.Kind <= 5 && fine[v.Kind] && !slices.ContainsFunc(v.List, func(x api.Value) bool { return !plainForm(x) })
}

// pops answers how many values an instruction takes, as chapter 13's table has it.
func (k *plain) pops(in api.Instr) int {
	if in.Op == code.Call {
		return k.module.Funcs[in.A].Params
	}
	return []int{0, 0, 0, 1, 0, 1, 1, 0, 1, 0, 1, 0, 2, 1, 1, 1, 1, 2, 2, 2, 3, 2}[in.Op]
}

// plainRun is chapter 15's Run; it counts what is done in seen.
func plainRun(m api.Module, states []api.Value, n int, args []api.Value, fuel int, seen map[int]int) ([]api.Value, api.Outcome) {
	if code.Verify(m, len(states)) != api.OK || n < 0 || n >= len(m.Funcs) || len(args) != m.Funcs[n].Params {
		return nil, api.Outcome{Err: api.ErrCode}
	}
	for _, v := range slices.Concat(states, args) {
		if !plainSound(v) {
			return nil, api.Outcome{Err: api.ErrCode}
		}
	}
	k := plain{m, slices.Clone(states), min(max(fuel, 0), 4096), seen}
	v, e := k.do(n, args)
	if e != api.OK {
		return states, api.Outcome{Err: e, Fuel: k.fuel}
	}
	return k.states, api.Outcome{Value: v, Fuel: k.fuel}
}

func (k *plain) charge(n int) api.Errno {
	if n > k.fuel {
		k.fuel = 0
		return api.ErrFuel
	}
	k.fuel -= n
	return api.OK
}

// do does a function: its answer, or a trap.
func (k *plain) do(n int, args []api.Value) (api.Value, api.Errno) {
	f := k.module.Funcs[n]
	locals := slices.Repeat([]api.Value{{Kind: 1}}, f.Locals)
	copy(locals, args)
	var stack []api.Value
	for at := 0; ; {
		in := f.Code[at]
		below := len(stack) - k.pops(in)
		popped := slices.Clone(stack[below:])
		stack = stack[:below]
		if in.Op == code.Ret {
			k.seen[in.Op]++
			return popped[0], api.OK
		}
		next, e := k.next(at, in, popped)
		if e != api.OK {
			return api.Value{}, e
		}
		at = next
		pushed, e := k.done(in, popped, locals)
		if e != api.OK {
			return api.Value{}, e
		}
		stack = append(stack, pushed...)
		k.seen[in.Op]++
	}
}

// next answers where it goes on, and charges for a way back.
func (k *plain) next(at int, in api.Instr, popped []api.Value) (int, api.Errno) {
	goes := in.Op == code.Jump
	if in.Op == code.Unless {
		if popped[0].Kind != api.VBool {
			return 0, api.ErrCode
		}
		goes = popped[0].Num == 0
	}
	if !goes {
		return at + 1, api.OK
	}
	if in.A <= at {
		return in.A, k.charge(1)
	}
	return in.A, api.OK
}

// done does what is to be done with what is popped, and answers what is pushed.
func (k *plain) done(in api.Instr, popped, locals []api.Value) ([]api.Value, api.Errno) {
	one := func(v api.Value, e api.Errno) ([]api.Value, api.Errno) { return []api.Value{v}, e }
	switch in.Op {
	case code.Const:
		return one(k.module.Consts[in.A], api.OK)
	case code.Load:
		return one(locals[in.A], api.OK)
	case code.Store:
		locals[in.A] = popped[0]
	case code.Get:
		return one(k.states[in.A], api.OK)
	case code.Set:
		k.states[in.A] = popped[0]
	case code.Call:
		if e := k.charge(1); e != api.OK {
			return nil, e
		}
		return one(k.do(in.A, popped))
	case code.Charge:
		return nil, k.charge(in.A)
	case code.Pop, code.Jump, code.Unless:
	default:
		return one(reckoned(in, popped))
	}
	return nil, api.OK
}

// reckoned answers what layers 9 and 11 make of values.
func reckoned(in api.Instr, v []api.Value) (api.Value, api.Errno) {
	switch in.Op {
	case code.Binary:
		return sem.Binary(in.A, v[0], v[1])
	case code.Neg:
		return sem.Neg(v[0])
	case code.Not:
		if v[0].Kind != api.VBool {
			return api.Value{}, api.ErrCode
		}
		return truth(v[0].Num == 0), api.OK
	case code.Len:
		n, e := value.Len(v[0])
		return number(n), e
	case code.Str:
		return sem.Str(v[0])
	case code.Has:
		is, e := value.Has(v[0], v[1])
		return truth(is), e
	case code.At:
		return value.At(v[0], v[1])
	case code.Push:
		return value.Push(v[0], v[1])
	case code.Put:
		return value.Put(v[0], v[1], v[2])
	case code.Del:
		return value.Del(v[0], v[1])
	}
	panic("no such Op")
}

// Values.

func number(n int) api.Value            { return api.Value{Kind: 1, Num: n} }
func word(s string) api.Value           { return api.Value{Kind: 3, Text: s} }
func list(l ...api.Value) api.Value     { return api.Value{Kind: 4, List: l} }
func table(l ...api.Value) api.Value    { return api.Value{Kind: 5, List: l} }
func long(n int) api.Value              { return word(strings.Repeat("t", n)) }
func values(l ...api.Value) []api.Value { return l }

func truth(is bool) api.Value {
	return api.Value{Kind: 2, Num: map[bool]int{true: 1}[is]}
}

func alike(a, b api.Value) bool {
	return a.Kind == b.Kind && a.Num == b.Num && a.Text == b.Text && slices.EqualFunc(a.List, b.List, alike)
}

func allAlike(a, b []api.Value) bool { return slices.EqualFunc(a, b, alike) }

func sameOutcome(a, b api.Outcome) bool {
	return a.Err == b.Err && a.Fuel == b.Fuel && alike(a.Value, b.Value)
}

// shown is a value as the tables have it: 5, true, "ab", [7, 8], {1: 2}.
func shown(v api.Value) string {
	switch v.Kind {
	case 1:
		return fmt.Sprint(v.Num)
	case 2:
		return fmt.Sprint(v.Num == 1)
	case 3:
		return fmt.Sprintf("%.20q", v.Text)
	case 4:
		return "[" + shownAll(v.List) + "]"
	case 5:
		var pairs []string
		for i := 0; i+1 < len(v.List); i += 2 {
			pairs = append(pairs, shown(v.List[i])+": "+shown(v.List[i+1]))
		}
		return "{" + strings.Join(pairs, ", ") + "}"
	}
	return fmt.Sprintf("kind %d", v.Kind)
}

func shownAll(l []api.Value) string {
	var out []string
	for _, v := range l {
		out = append(out, shown(v))
	}
	return strings.Join(out, ", ")
}

// all reads values as the tables have them.
func all(s string) []api.Value {
	l, rest := part(s + "]")
	if rest != "" {
		panic("no values: " + s)
	}
	return l
}

// part reads values up to a closing bracket, and answers what stands behind it.
func part(s string) (out []api.Value, rest string) {
	for {
		s = strings.TrimLeft(s, " ,:")
		switch s[0] {
		case ']', '}':
			return out, s[1:]
		case '[', '{':
			kind := map[byte]int{'[': 4, '{': 5}[s[0]]
			var l []api.Value
			l, s = part(s[1:])
			out = append(out, api.Value{Kind: kind, List: l})
		case '"':
			text, rest, _ := strings.Cut(s[1:], `"`)
			out, s = append(out, word(text)), rest
		default:
			end := strings.IndexAny(s, ",:]} ")
			n, err := strconv.Atoi(s[:end])
			if err != nil {
				out = append(out, truth(s[:end] == "true"))
			} else {
				out = append(out, number(n))
			}
			s = s[end:]
		}
	}
}

// told is what a run answers, as the tables have it: the states, the answer or the error, the fuel.
func told(states []api.Value, o api.Outcome) string {
	what := shown(o.Value)
	if o.Err != api.OK {
		what = map[api.Errno]string{api.ErrOver: "ErrOver", api.ErrZero: "ErrZero", api.ErrKey: "ErrKey", api.ErrSize: "ErrSize", api.ErrFuel: "ErrFuel", api.ErrCode: "ErrCode"}[o.Err]
	}
	return strings.TrimPrefix(fmt.Sprintf("%s -> %s / %d", shownAll(states), what, o.Fuel), " ")
}

// Modules.

var (
	opNames = strings.Fields("Const Load Store Get Set Pop Jump Unless Call Ret Charge Binary Neg Not Len Str Has At Push Put Del")
	opMarks = strings.Fields("== != < <= > >= + - * / %")
)

// made makes a module of lines, one a function: how many params and locals, and the instructions; a Const has the constant itself, a Binary its mark.
func made(lines ...string) api.Module {
	m := api.Module{Consts: values(number(7))}
	for _, line := range lines {
		head, body, _ := strings.Cut(line, ": ")
		f := api.Func{Stack: 256}
		fmt.Sscan(head, &f.Params, &f.Locals)
		for _, s := range strings.Split(body, ", ") {
			name, a, _ := strings.Cut(s, " ")
			in := api.Instr{Op: 1 + slices.Index(opNames, name)}
			switch in.Op {
			case 0:
				panic("no instruction: " + s)
			case code.Const:
				in.A = len(m.Consts)
				m.Consts = append(m.Consts, all(a)...)
			case code.Binary:
				in.A = 3 + slices.Index(opMarks, a)
			default:
				in.A, _ = strconv.Atoi(a)
			}
			f.Code = append(f.Code, in)
		}
		m.Funcs = append(m.Funcs, f)
	}
	return m
}

// Values and modules by chance.

func newRand(seed uint64) *rand.Rand       { return rand.New(rand.NewPCG(15, seed)) }
func pick[T any](r *rand.Rand, list []T) T { return list[r.IntN(len(list))] }

var (
	someNumbers = []int{0, 0, 1, 1, 1, 2, 2, 3, 5, 63, 64, -1, -1, -7, 1 << 40, greatest, greatest - 1, least, least + 1}
	someTexts   = []string{"", "", "a", "a", "b", "ab", "\x00\xff", strings.Repeat("z", 60), strings.Repeat("y", 200), strings.Repeat("x", 256)}
	someSizes   = []int{0, 0, 1, 1, 2, 2, 3, 4, 7, 62, 63, 64}
)

// anyValue makes a sound value of a kind (0: any), with lists in it that are so deep.
func anyValue(r *rand.Rand, kind, depth int) api.Value {
	if kind == 0 {
		kind = pick(r, []int{1, 1, 1, 1, 2, 3, 3, 4, 5})
	}
	switch kind {
	case 1:
		return number(pick(r, someNumbers))
	case 2:
		return truth(r.IntN(2) == 0)
	case 3:
		return word(pick(r, someTexts))
	}
	v := api.Value{Kind: kind}
	if depth == 0 {
		return v
	}
	inner := pick(r, []int{0, 1, 1, 1, 3})
	for range pick(r, someSizes) {
		x, changed := anyValue(r, inner, r.IntN(depth)), v
		if kind == 4 {
			changed, _ = value.Push(v, x)
		} else {
			changed, _ = value.Put(v, anyValue(r, pick(r, []int{1, 1, 1, 3, 0}), r.IntN(depth)), x)
		}
		if changed.Kind == kind { // it isn't too heavy
			v = changed
		}
	}
	return v
}

// heavy answers a sound list of 64 texts that weighs so much less than it may.
func heavy(less int) api.Value {
	return list(append(slices.Repeat(values(long(256)), 63), long(191-less))...)
}

// spoil makes something of a value another, somewhere in it: often it isn't sound any more.
func spoil(r *rand.Rand, v *api.Value) {
	if len(v.List) > 0 && r.IntN(3) > 0 {
		v.List = slices.Clone(v.List)
		spoil(r, &v.List[r.IntN(len(v.List))])
		return
	}
	switch r.IntN(6) {
	case 0:
		v.Kind = r.IntN(8) - 1
	case 1:
		v.Num = pick(r, []int{0, 1, 1, 2, -1, least})
	case 2:
		v.Text = pick(r, []string{"", "a", strings.Repeat("a", 255), strings.Repeat("a", 256), strings.Repeat("a", 257)})
	case 3:
		v.List = v.List[:len(v.List)/2]
	case 4:
		v.List = append(slices.Clone(v.List), anyValue(r, 0, 1))
	case 5:
		v.List = append(slices.Clone(v.List), v.List...)
	}
}

// coder makes modules that can be run. It guesses the kinds of values ahead, so that not every run traps soon.
type coder struct {
	r      *rand.Rand
	module api.Module
	states []int   // their kinds
	params [][]int // of each function the kinds of its params
	result []int   // of each function the kind of its answer

	locals []int   // of the function under way
	stack  []int   // the kinds on it
	places [][]int // the stack at each place
	code   []api.Instr
}

// make makes a module anew.
func (c *coder) make() {
	*c = coder{r: c.r}
	for kind := 1; kind <= 5; kind++ {
		for range 1 + c.r.IntN(3) {
			c.module.Consts = append(c.module.Consts, anyValue(c.r, kind, 0))
		}
	}
	for range c.r.IntN(8) {
		c.states = append(c.states, 1+c.r.IntN(5))
	}
	for range 1 + c.r.IntN(5) {
		c.function()
	}
}

func (c *coder) function() {
	f := api.Func{Zero: c.r.IntN(len(c.module.Consts))}
	c.locals, c.stack, c.places, c.code = nil, nil, nil, nil
	for range c.r.IntN(4) {
		c.locals = append(c.locals, 1+c.r.IntN(5))
	}
	f.Params = len(c.locals)
	params := slices.Clone(c.locals)
	for range c.r.IntN(4) {
		c.locals = append(c.locals, 1)
	}
	f.Locals = len(c.locals)
	result := 1 + c.r.IntN(5)
	for range c.r.IntN(60) {
		c.instruction(result)
	}
	c.emit(api.Instr{Op: code.Const, A: c.constant(result)}, 0, result)
	c.emit(api.Instr{Op: code.Ret}, 1)
	c.jumps()
	f.Code = c.code
	high := 1
	for _, l := range c.places {
		high = max(high, len(l))
	}
	f.Stack = pick(c.r, []int{high, high + 1, 256})
	c.module.Funcs = append(c.module.Funcs, f)
	c.params, c.result = append(c.params, params), append(c.result, result)
}

// constant answers the place of one of a kind.
func (c *coder) constant(kind int) int {
	for {
		if i := c.r.IntN(len(c.module.Consts)); c.module.Consts[i].Kind == kind {
			return i
		}
	}
}

func (c *coder) emit(in api.Instr, pops int, pushes ...int) {
	c.places = append(c.places, slices.Clone(c.stack))
	c.code = append(c.code, in)
	c.stack = append(c.stack[:len(c.stack)-pops], pushes...)
}

// way is an instruction that may come next.
type way struct {
	in     api.Instr
	pops   int
	pushes []int
}

// instruction adds one, most often one that suits the kinds on the stack.
func (c *coder) instruction(result int) {
	suits := c.r.IntN(40) > 0
	ways := slices.DeleteFunc(c.ways(result, !suits), func(w way) bool { return w.pops > len(c.stack) || len(c.stack)-w.pops+len(w.pushes) > 8 })
	op := pick(c.r, ways).in.Op
	ways = slices.DeleteFunc(ways, func(w way) bool { return w.in.Op != op }) // each Op as often, however many ways it has
	w := pick(c.r, ways)
	c.emit(w.in, w.pops, w.pushes...)
}

// top answers the kind of what lies so deep on the stack; 0, if nothing does.
func (c *coder) top(deep int) int {
	if deep >= len(c.stack) {
		return 0
	}
	return c.stack[len(c.stack)-1-deep]
}

// ways answers those that suit, or all.
func (c *coder) ways(result int, every bool) []way {
	var out []way
	add := func(is bool, op, a, pops int, pushes ...int) {
		if is || every {
			out = append(out, way{api.Instr{Op: op, A: a}, pops, pushes})
		}
	}
	for i, v := range c.module.Consts {
		add(true, code.Const, i, 0, v.Kind)
	}
	for i, kind := range c.locals {
		add(true, code.Load, i, 0, kind)
		add(kind == c.top(0), code.Store, i, 1)
	}
	for i, kind := range c.states {
		add(true, code.Get, i, 0, kind)
		add(kind == c.top(0), code.Set, i, 1)
	}
	for i, params := range c.params {
		n := len(params)
		add(n <= len(c.stack) && slices.Equal(params, c.stack[len(c.stack)-n:]), code.Call, i, n, c.result[i])
	}
	add(len(c.code)%5 == 0, code.Pop, 0, 1)
	add(len(c.code)%7 == 0, code.Jump, 0, 0)
	add(c.top(0) == 2, code.Unless, 0, 1)
	add(len(c.code)%9 == 0 && c.top(0) == result, code.Ret, 0, 1)
	add(len(c.code)%9 == 0, code.Charge, pick(c.r, []int{0, 1, 2, 5, 100, 4096, 1 << 40}), 0)
	c.made(add)
	return out
}

// made adds the ways that make a value of values.
func (c *coder) made(add func(is bool, op, a, pops int, pushes ...int)) {
	x, y, z := c.top(0), c.top(1), c.top(2)
	for op := 3; op <= 13; op++ {
		kind := x
		if op <= 8 {
			kind = 2
		}
		add(x == y && x > 0 && (op <= 4 || x == 1 || x == 3 && op <= 9), code.Binary, op, 2, kind)
	}
	add(x == 1, code.Neg, 0, 1, 1)
	add(x == 2, code.Not, 0, 1, 2)
	add(x >= 3, code.Len, 0, 1, 1)
	add(x == 1, code.Str, 0, 1, 3)
	add(y == 5, code.Has, 0, 2, 2)
	add(y == 4 && x == 1 || y == 5, code.At, 0, 2, 1) // most parts are numbers
	add(y == 4, code.Push, 0, 2, 4)
	add(z == 4 && y == 1 || z == 5, code.Put, 0, 3, z)
	add(y == 5, code.Del, 0, 2, 5)
}

// jumps lays down where each of them goes on: where the stack is as high, if there is such a place with the same kinds too.
func (c *coder) jumps() {
	for at := range c.code {
		in := &c.code[at]
		if in.Op != code.Jump && in.Op != code.Unless {
			continue
		}
		want := c.places[at]
		if in.Op == code.Unless {
			want = want[:len(want)-1]
		}
		var high, same []int
		for i, l := range c.places {
			if len(l) == len(want) && (i > at || c.r.IntN(3) == 0) {
				high = append(high, i)
				if slices.Equal(l, want) {
					same = append(same, i)
				}
			}
		}
		if len(same) > 0 && c.r.IntN(10) > 0 {
			high = same
		}
		in.A = pick(c.r, high)
	}
}

// of makes values of kinds, few of them of another kind than guessed.
func (c *coder) of(kinds []int) []api.Value {
	var out []api.Value
	for _, kind := range kinds {
		switch c.r.IntN(30) {
		case 0:
			kind = 0
		case 1:
			if kind == 4 {
				out = append(out, heavy(c.r.IntN(4)))
				continue
			}
		}
		out = append(out, anyValue(c.r, kind, c.r.IntN(4)))
	}
	return out
}

// wantModule asks that what was made can be run.
func (c *coder) wantModule(t *testing.T) {
	t.Helper()
	if code.Verify(c.module, len(c.states)) != api.OK {
		t.Fatalf("%+v: it can't be run", c.module)
	}
}
