package code

import (
	"encoding/binary"
	"fmt"
	"math"
	"math/rand/v2"
	"slices"
	"strings"

	"quern/api"
)

const (
	least    = math.MinInt
	greatest = math.MaxInt
)

// The chapter's table: Op, name, what A is, how many it pops and pushes (Call pops its function's Params).
const chapter = `
1 Const constant 0 1
2 Load local 0 1
3 Store local 1 0
4 Get state 0 1
5 Set state 1 0
6 Pop nought 1 0
7 Jump place 0 0
8 Unless place 1 0
9 Call function 0 1
10 Ret nought 1 0
11 Charge units 0 0
12 Binary operator 2 1
13 Neg nought 1 1
14 Not nought 1 1
15 Len nought 1 1
16 Str nought 1 1
17 Has nought 2 1
18 At nought 2 1
19 Push nought 2 1
20 Put nought 3 1
21 Del nought 2 1`

type row struct {
	op           int
	name, a      string
	pops, pushes int
}

func readRows() []row {
	var out []row
	for line := range strings.Lines(strings.TrimSpace(chapter)) {
		var x row
		if _, err := fmt.Sscan(line, &x.op, &x.name, &x.a, &x.pops, &x.pushes); err != nil {
			panic(err)
		}
		out = append(out, x)
	}
	return out
}

var rows = readRows()

func named(name string) row {
	return rows[slices.IndexFunc(rows, func(x row) bool { return x.name == name })]
}

// asm reads instructions from their names: "Const 1; Ret"; an A that isn't there is 0.
func asm(s string) []api.Instr {
	var out []api.Instr
	for part := range strings.SplitSeq(s, ";") {
		words := strings.Fields(part)
		if len(words) == 0 {
			continue
		}
		in := api.Instr{Op: named(words[0]).op}
		if len(words) > 1 {
			if _, err := fmt.Sscan(words[1], &in.A); err != nil {
				panic(err)
			}
		}
		out = append(out, in)
	}
	return out
}

// The plain model: which modules can be run.

// plainType answers the type of what may be a constant.
func plainType(v api.Value) string {
	bare := v.Text == "" && len(v.List) == 0
	switch {
	case v.Kind == 1 && bare:
		return "int"
	case v.Kind == 2 && bare && (v.Num == 0 || v.Num == 1):
		return "bool"
	case v.Kind == 3 && v.Num == 0 && len(v.List) == 0 && len(v.Text) <= 256:
		return "text"
	case v.Kind == 4 && bare && v.Num == 0:
		return "[int]"
	case v.Kind == 5 && bare && v.Num == 0:
		return "{int:int}"
	}
	return ""
}

// plainAs answers the least A and the one behind the greatest.
func plainAs(m api.Module, n, states int, a string) (int, int) {
	switch a {
	case "constant":
		return 0, len(m.Consts)
	case "local":
		return 0, m.Funcs[n].Locals
	case "state":
		return 0, states
	case "place":
		return 0, len(m.Funcs[n].Code)
	case "function":
		return 0, n
	case "units":
		return 0, 1<<40 + 1
	case "operator":
		return 3, 14
	}
	return 0, 1
}

func plainVerify(m api.Module, states int) api.Errno {
	fine := states >= 0 && states <= 32 && len(m.Funcs) <= 32 && len(m.Consts) <= 16384
	for _, v := range m.Consts {
		fine = fine && plainType(v) != ""
	}
	for n, f := range m.Funcs {
		fine = fine && f.Params >= 0 && f.Params <= 8 && f.Locals >= f.Params && f.Locals <= 256
		fine = fine && f.Zero >= 0 && f.Zero < len(m.Consts) && f.Stack >= 1 && f.Stack <= 256
		fine = fine && len(f.Code) >= 1 && len(f.Code) <= 16384
		fine = fine && plainInstrs(m, n, states) && plainHeights(m, n)
	}
	if !fine {
		return api.ErrCode
	}
	return api.OK
}

func plainInstrs(m api.Module, n, states int) bool {
	for _, in := range m.Funcs[n].Code {
		if in.Op < 1 || in.Op > 21 {
			return false
		}
		from, to := plainAs(m, n, states, rows[in.Op-1].a)
		if in.A < from || in.A >= to {
			return false
		}
	}
	return true
}

// plainNext answers the places behind an instruction.
func plainNext(at int, in api.Instr) []int {
	switch rows[in.Op-1].name {
	case "Jump":
		return []int{in.A}
	case "Unless":
		return []int{at + 1, in.A}
	case "Ret":
		return nil
	}
	return []int{at + 1}
}

// plainHeights gives each place that is reached a height, over and over until none is new, and only then asks whether they are as they must be.
func plainHeights(m api.Module, n int) bool {
	f := m.Funcs[n]
	reached, heights := make([]bool, len(f.Code)), make([]int, len(f.Code))
	reached[0] = true
	step := func(at int) (int, int) {
		in := f.Code[at]
		pops := rows[in.Op-1].pops
		if rows[in.Op-1].name == "Call" {
			pops = m.Funcs[in.A].Params
		}
		return heights[at] - pops, heights[at] - pops + rows[in.Op-1].pushes
	}
	for again := true; again; {
		again = false
		for at := range f.Code {
			if !reached[at] {
				continue
			}
			_, h := step(at)
			for _, next := range plainNext(at, f.Code[at]) {
				if next < len(f.Code) && !reached[next] {
					reached[next], heights[next], again = true, h, true
				}
			}
		}
	}
	for at := range f.Code {
		if !reached[at] {
			continue
		}
		low, h := step(at)
		if low < 0 || h > f.Stack {
			return false
		}
		for _, next := range plainNext(at, f.Code[at]) {
			if next >= len(f.Code) || heights[next] != h {
				return false
			}
		}
	}
	return true
}

// The plain model: bytes.

func putNumbers(b []byte, xs ...int) []byte {
	for _, x := range xs {
		b = binary.AppendUvarint(b, uint64(x))
	}
	return b
}

func putConst(b []byte, v api.Value) []byte {
	switch {
	case v.Kind == 1 && v.Num < 0:
		return putNumbers(b, 1, 1, -(v.Num + 1))
	case v.Kind == 1:
		return putNumbers(b, 1, 0, v.Num)
	case v.Kind == 3:
		return append(putNumbers(b, 3, len(v.Text)), v.Text...)
	}
	return putNumbers(b, v.Kind, v.Num)
}

// plainBytes answers the bytes of any module that bytes can be of.
func plainBytes(m api.Module) []byte {
	b := putNumbers(nil, len(m.Consts), len(m.Funcs))
	for _, v := range m.Consts {
		b = putConst(b, v)
	}
	for _, f := range m.Funcs {
		b = putNumbers(b, f.Params, f.Locals, f.Zero, f.Stack, len(f.Code))
		for _, in := range f.Code {
			b = putNumbers(b, in.Op, in.A)
		}
	}
	return b
}

// hasBytes tells whether there are bytes that are read as a module, whether it can be run or not.
func hasBytes(m api.Module) bool {
	for _, v := range m.Consts {
		if len(v.List) > 0 || v.Kind < 0 || v.Kind != 3 && v.Text != "" || v.Kind == 3 && v.Num != 0 || v.Kind != 1 && v.Num < 0 {
			return false
		}
	}
	for _, f := range m.Funcs {
		if min(f.Params, f.Locals, f.Zero, f.Stack) < 0 {
			return false
		}
		for _, in := range f.Code {
			if min(in.Op, in.A) < 0 {
				return false
			}
		}
	}
	return true
}

type source struct {
	b   []byte
	bad bool
}

func (s *source) number() int {
	x, n := binary.Uvarint(s.b)
	if s.bad || n < 1 || n > 9 || n > 1 && s.b[n-1] == 0 {
		s.bad = true
		return 0
	}
	s.b = s.b[n:]
	return int(x)
}

func (s *source) constant() api.Value {
	kind, x := s.number(), s.number()
	switch kind {
	case 1:
		n := s.number()
		if x == 1 {
			n = -n - 1
		}
		return number(n)
	case 3:
		if x > len(s.b) {
			s.bad = true
			return api.Value{}
		}
		text := string(s.b[:x])
		s.b = s.b[x:]
		return word(text)
	}
	return api.Value{Kind: kind, Num: x}
}

func plainDecode(b []byte, states int) (api.Module, api.Errno) {
	s := source{b: b}
	var m api.Module
	consts, funcs := s.number(), s.number()
	for ; consts > 0 && !s.bad; consts-- {
		m.Consts = append(m.Consts, s.constant())
	}
	for ; funcs > 0 && !s.bad; funcs-- {
		f := api.Func{Params: s.number(), Locals: s.number(), Zero: s.number(), Stack: s.number()}
		for n := s.number(); n > 0 && !s.bad; n-- {
			f.Code = append(f.Code, api.Instr{Op: s.number(), A: s.number()})
		}
		m.Funcs = append(m.Funcs, f)
	}
	switch {
	case s.bad || len(s.b) > 0:
		return api.Module{}, api.ErrForm
	case plainVerify(m, states) != api.OK:
		return api.Module{}, api.ErrCode
	case string(plainBytes(m)) != string(b):
		return api.Module{}, api.ErrForm
	}
	return m, api.OK
}

// Values, and modules held against each other.

func number(n int) api.Value           { return api.Value{Kind: 1, Num: n} }
func truth(n int) api.Value            { return api.Value{Kind: 2, Num: n} }
func word(s string) api.Value          { return api.Value{Kind: 3, Text: s} }
func list(l ...api.Value) api.Value    { return api.Value{Kind: 4, List: l} }
func table(l ...api.Value) api.Value   { return api.Value{Kind: 5, List: l} }
func consts(l ...api.Value) api.Module { return api.Module{Consts: l} }

func sameValue(a, b api.Value) bool {
	return a.Kind == b.Kind && a.Num == b.Num && a.Text == b.Text && slices.EqualFunc(a.List, b.List, sameValue)
}

func sameFunc(a, b api.Func) bool {
	return a.Params == b.Params && a.Locals == b.Locals && a.Zero == b.Zero && a.Stack == b.Stack && slices.Equal(a.Code, b.Code)
}

func same(a, b api.Module) bool {
	return slices.EqualFunc(a.Consts, b.Consts, sameValue) && slices.EqualFunc(a.Funcs, b.Funcs, sameFunc)
}

// copied answers a module in new memory, but for its texts.
func copied(m api.Module) api.Module {
	m.Consts, m.Funcs = slices.Clone(m.Consts), slices.Clone(m.Funcs)
	for i := range m.Funcs {
		m.Funcs[i].Code = slices.Clone(m.Funcs[i].Code)
	}
	return m
}

// told shortens what would fill the screen.
func told(x any) string {
	s := fmt.Sprintf("%+v", x)
	return s[:min(len(s), 1500)]
}

// Modules by chance.

func newRand(seed uint64) *rand.Rand       { return rand.New(rand.NewPCG(13, seed)) }
func pick[T any](r *rand.Rand, list []T) T { return list[r.IntN(len(list))] }

// maker makes modules that can be run.
type maker struct {
	r      *rand.Rand
	m      api.Module // the function under way is its last one
	states int
	left   int // about how many instructions may still come
}

func (k *maker) constant() api.Value {
	switch k.r.IntN(7) {
	case 0:
		return truth(k.r.IntN(2))
	case 1:
		return word(strings.Repeat(pick(k.r, []string{"a", "ö", "\x00", "\xff"}), k.r.IntN(4)))
	case 2:
		return word(strings.Repeat("x", k.r.IntN(257)))
	case 3:
		return list()
	case 4:
		return table()
	}
	return number(pick(k.r, []int{0, 1, -1, 127, 128, -128, -129, 300, greatest, least, greatest - 1, least + 1, k.r.IntN(1 << 50)}))
}

// module makes a module, and with how many states it can be run at least.
func (k *maker) module() (api.Module, int) {
	k.states, k.m = pick(k.r, []int{0, 1, 2, 3, 32}), api.Module{}
	for range k.r.IntN(6) {
		k.m.Consts = append(k.m.Consts, k.constant())
	}
	if len(k.m.Consts) > 0 {
		for range k.r.IntN(5) {
			k.function()
		}
	}
	return copied(k.m), k.states
}

func (k *maker) fn() *api.Func { return &k.m.Funcs[len(k.m.Funcs)-1] }
func (k *maker) here() int     { return len(k.fn().Code) }

func (k *maker) emit(name string, a int) int {
	k.fn().Code = append(k.fn().Code, api.Instr{Op: named(name).op, A: a})
	return k.here() - 1
}

func (k *maker) function() {
	f := api.Func{Params: pick(k.r, []int{0, 0, 1, 2, 3, 8}), Zero: k.r.IntN(len(k.m.Consts)), Stack: pick(k.r, []int{1, 2, 3, 4, 5, 256})}
	f.Locals = pick(k.r, []int{f.Params, f.Params + 1, f.Params + 2, 256})
	k.m.Funcs = append(k.m.Funcs, f)
	k.left = k.r.IntN(30)
	h := k.steps(0, 3)
	if k.r.IntN(6) == 0 {
		k.level(h, 0)
		k.emit("Jump", 0)
	} else {
		k.level(h, max(h, 1))
		k.emit("Ret", 0)
	}
	k.junk()
}

// a answers an A for an Op of the function under way; false: there is none.
func (k *maker) a(x row) (int, bool) {
	from, to := plainAs(k.m, len(k.m.Funcs)-1, k.states, x.a)
	if from >= to {
		return 0, false
	}
	return pick(k.r, []int{from, to - 1, from + k.r.IntN(to-from)}), true
}

// steps goes on from a height, and answers the one where it ends.
func (k *maker) steps(h, deep int) int {
	for n := k.r.IntN(8); n > 0 && k.left > 0; n-- {
		switch room := h < k.fn().Stack; {
		case room && deep > 0 && k.r.IntN(5) == 0:
			h = k.fork(h, deep-1)
		case room && deep > 0 && k.r.IntN(6) == 0:
			k.loop(h, deep-1)
		default:
			h = k.step(h)
		}
	}
	return h
}

// step adds an instruction that fits.
func (k *maker) step(h int) int {
	x := pick(k.r, rows)
	a, ok := k.a(x)
	if x.name == "Call" && ok {
		x.pops = k.m.Funcs[a].Params
	}
	next := h - x.pops + x.pushes
	if !ok || slices.Contains([]string{"Jump", "Unless", "Ret"}, x.name) || h < x.pops || next > k.fn().Stack {
		return h
	}
	k.emit(x.name, a)
	k.left--
	return next
}

// level leads from a height to another one.
func (k *maker) level(h, want int) {
	for ; h > want; h-- {
		k.emit("Pop", 0)
	}
	for ; h < want; h++ {
		k.emit("Const", k.r.IntN(len(k.m.Consts)))
	}
}

// fork adds two ways that meet, or one of which ends.
func (k *maker) fork(h, deep int) int {
	k.emit("Const", 0)
	from := k.emit("Unless", 0)
	meet := k.steps(h, deep)
	if meet > 0 && k.r.IntN(4) == 0 {
		k.emit("Ret", 0)
		k.junk()
		k.fn().Code[from].A = k.here()
		return k.steps(h, deep)
	}
	over := k.emit("Jump", 0)
	k.junk()
	k.fn().Code[from].A = k.here()
	k.level(k.steps(h, deep), meet)
	k.fn().Code[over].A = k.here()
	return meet
}

// loop adds a way that leads back.
func (k *maker) loop(h, deep int) {
	from := k.here()
	k.emit("Const", 0)
	out := k.emit("Unless", 0)
	k.level(k.steps(h, deep), h)
	k.emit("Jump", from)
	k.junk()
	k.fn().Code[out].A = k.here()
}

// junk adds instructions that are never reached, of whatever height.
func (k *maker) junk() {
	for range max(0, k.r.IntN(8)-5) {
		x := pick(k.r, rows)
		if a, ok := k.a(x); ok {
			k.emit(x.name, a)
		}
	}
}

// Modules that are nearly right.

var edges = []int{least, -1, 0, 1, 2, 3, 7, 8, 9, 12, 13, 14, 21, 22, 31, 32, 33, 255, 256, 257, 1<<14 - 1, 1 << 14, 1<<14 + 1, 1 << 40, 1<<40 + 1, greatest}

func (k *maker) turn(x *int) {
	switch k.r.IntN(3) {
	case 0:
		*x = pick(k.r, edges)
	case 1:
		*x++
	default:
		*x--
	}
}

// spoil changes one thing of a module.
func (k *maker) spoil(m *api.Module) {
	if len(m.Consts) > 0 && k.r.IntN(4) == 0 {
		k.spoilConsts(m)
		return
	}
	if len(m.Funcs) == 0 {
		return
	}
	n := k.r.IntN(len(m.Funcs))
	f := &m.Funcs[n]
	if len(f.Code) == 0 || k.r.IntN(4) == 0 {
		switch k.r.IntN(5) {
		case 0:
			m.Funcs = slices.Delete(m.Funcs, n, n+1)
		default:
			k.turn(pick(k.r, []*int{&f.Params, &f.Locals, &f.Zero, &f.Stack}))
		}
		return
	}
	switch at := k.r.IntN(len(f.Code)); k.r.IntN(6) {
	case 0:
		f.Code = slices.Delete(f.Code, at, at+1)
	case 1:
		f.Code = slices.Insert(f.Code, at, api.Instr{Op: 1 + k.r.IntN(21)})
	case 2:
		k.turn(&f.Code[at].Op)
	case 3:
		f.Code[at].Op = 1 + k.r.IntN(21)
	case 4:
		f.Code[at].A = k.r.IntN(len(f.Code))
	default:
		k.turn(&f.Code[at].A)
	}
}

func (k *maker) spoilConsts(m *api.Module) {
	i := k.r.IntN(len(m.Consts))
	switch v := &m.Consts[i]; k.r.IntN(6) {
	case 0:
		m.Consts = slices.Delete(m.Consts, i, i+1)
	case 1:
		k.turn(&v.Kind)
	case 2:
		k.turn(&v.Num)
	case 3:
		v.Text = pick(k.r, []string{"", "a", strings.Repeat("b", 257)})
	case 4:
		v.List = pick(k.r, [][]api.Value{nil, {}, {number(1)}, {number(1), number(2)}})
	default:
		*v = k.constant()
	}
}
