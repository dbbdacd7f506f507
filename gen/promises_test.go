package gen

import (
	"cmp"
	"fmt"
	"reflect"
	"slices"
	"strings"
	"testing"
	"unsafe"

	"quern/api"
	"quern/code"
	"quern/opt"
)

// P14.1 and P14.2, by chance.

func TestRandomPrograms(t *testing.T) {
	m := chancer{r: newRand(1)}
	seen, done, changed := map[api.Errno]int{}, map[string]int{}, 0
	for range 1000 {
		p := m.prog(t)
		module := wantModule(t, p)
		count(p, done)
		states := m.states()
		for range 3 {
			out, o := wantAll(t, p, module, states, m.command(), m.r.IntN(20), m.r.IntN(60), m.r.IntN(4096))
			seen[o.Err]++
			if !allAlike(out, states) {
				changed++
			}
			if m.r.IntN(3) > 0 {
				states = out
			} else {
				states = m.states()
			}
		}
	}
	for _, e := range []api.Errno{api.OK, api.ErrOver, api.ErrZero, api.ErrKey, api.ErrSize, api.ErrFuel} {
		if seen[e] < 50 {
			t.Errorf("error %d: too few: %d", e, seen[e])
		}
	}
	for _, kind := range kinds() {
		if done[kind] < 100 {
			t.Errorf("%s: too few: %d", kind, done[kind])
		}
	}
	if changed < 500 {
		t.Error("too little is changed:", changed)
	}
}

// With all fuel there is.
func TestAllFuel(t *testing.T) {
	m := chancer{r: newRand(2)}
	for range 60 {
		p := m.prog(t)
		module, states, c := wantModule(t, p), m.states(), m.command()
		for fuel := 0; fuel <= 4097; fuel += 1 + fuel/50 {
			wantSame(t, p, module, states, c, fuel)
		}
	}
}

// Charges of all sizes, as Optimize makes them, and others.
func TestCharges(t *testing.T) {
	p := opt.Optimize(loaded(t, "state n: int; fn f(): int { for i to 2 {} ret 1; } on h(): int { set n = 5; for i to 7 {} set n = n + f(); for i to 3 { for j to 4 {} set n = i; } ret n; }"))
	if p.Fns[1].Body[1].Kind != api.SCharge {
		t.Fatalf("%+v", p.Fns[1].Body)
	}
	for _, num := range []int{least, -1, 0, 1, 2, 7, 4095, 4096, 4097, 1<<40 - 1, 1 << 40, 1<<40 + 1, greatest} {
		p.Fns[1].Body[1].Num = num
		m := wantModule(t, p)
		for fuel := range 40 {
			wantSame(t, p, m, values(number(1)), api.Command{Name: "h"}, fuel)
		}
		wantAll(t, p, m, values(number(1)), api.Command{Name: "h"}, 4095, 4096)
	}
}

// P14.3

// span is the memory that something has.
type span struct{ from, to uintptr }

func listSpan[T any](l []T) span {
	var one T
	from := uintptr(unsafe.Pointer(unsafe.SliceData(l)))
	return span{from, from + uintptr(cap(l))*unsafe.Sizeof(one)}
}

func textSpan(s string) span {
	from := uintptr(unsafe.Pointer(unsafe.StringData(s)))
	return span{from, from + uintptr(len(s))}
}

// spans answers the memory of a module, in all its depths.
func spans(m api.Module) []span {
	out := []span{listSpan(m.Consts), listSpan(m.Funcs)}
	for _, v := range m.Consts {
		out = append(out, textSpan(v.Text), listSpan(v.List))
	}
	for _, f := range m.Funcs {
		out = append(out, listSpan(f.Code))
	}
	return out
}

// share tells whether two of these have a byte in common.
func share(l []span) bool {
	l = slices.DeleteFunc(slices.Clone(l), func(s span) bool { return s.from == s.to })
	slices.SortFunc(l, func(a, b span) int { return cmp.Compare(a.from, b.from) })
	for i := 1; i < len(l); i++ {
		if l[i-1].to > l[i].from {
			return true
		}
	}
	return false
}

// owner makes arguments in memory of its own, lists with spare room in which something stands, and texts that can be written over.
type owner struct {
	spans []span
	bytes [][]byte // of all lists and texts
	wipes []func()
}

func (o *owner) text(s string) string {
	if s == "" {
		return ""
	}
	b := []byte(s)
	o.bytes = append(o.bytes, b)
	o.wipes = append(o.wipes, func() { clear(b) })
	s = unsafe.String(&b[0], len(b))
	o.spans = append(o.spans, textSpan(s))
	return s
}

func roomy[T any](o *owner, l []T, spare T) []T {
	l = append(slices.Clone(l), spare, spare)
	at := listSpan(l)
	o.bytes = append(o.bytes, unsafe.Slice((*byte)(unsafe.Pointer(&l[0])), at.to-at.from))
	o.wipes = append(o.wipes, func() { clear(l[:cap(l)]) })
	o.spans = append(o.spans, at)
	return l[:len(l)-2]
}

func (o *owner) exprs(l []api.Expr) []api.Expr {
	l = roomy(o, l, api.Expr{Kind: 99})
	for i := range l {
		l[i].Text, l[i].Type, l[i].Args = o.text(l[i].Text), o.text(l[i].Type), o.exprs(l[i].Args)
	}
	return l
}

func (o *owner) stmts(l []api.Stmt) []api.Stmt {
	l = roomy(o, l, api.Stmt{Kind: 77})
	for i := range l {
		l[i].Name, l[i].E, l[i].Body, l[i].Else = o.text(l[i].Name), o.exprs(l[i].E), o.stmts(l[i].Body), o.stmts(l[i].Else)
	}
	return l
}

func (o *owner) slots(l []api.Slot) []api.Slot {
	l = roomy(o, l, api.Slot{Name: "spare"})
	for i := range l {
		l[i].Name, l[i].Type = o.text(l[i].Name), o.text(l[i].Type)
	}
	return l
}

func (o *owner) prog(p api.Prog) api.Prog {
	p.States = o.slots(p.States)
	p.Fns = roomy(o, p.Fns, api.Fn{Name: "spare"})
	for i := range p.Fns {
		f := &p.Fns[i]
		f.Name, f.Result, f.Params, f.Body = o.text(f.Name), o.text(f.Result), o.slots(f.Params), o.stmts(f.Body)
		f.Locals = roomy(o, f.Locals, "spare")
		for j := range f.Locals {
			f.Locals[j] = o.text(f.Locals[j])
		}
	}
	return p
}

// all answers all that the arguments hold, spare room included.
func (o *owner) all() string { return string(slices.Concat(o.bytes...)) }

// copied answers a module in memory of its own, whose empty lists are nil.
func copied(m api.Module) api.Module {
	var out api.Module
	for _, v := range m.Consts {
		out.Consts = append(out.Consts, api.Value{Kind: v.Kind, Num: v.Num, Text: strings.Clone(v.Text), List: append([]api.Value(nil), v.List...)})
	}
	for _, f := range m.Funcs {
		f.Code = append([]api.Instr(nil), f.Code...)
		out.Funcs = append(out.Funcs, f)
	}
	return out
}

func wipe(m api.Module) {
	for _, f := range m.Funcs {
		clear(f.Code[:cap(f.Code)])
	}
	clear(m.Funcs[:cap(m.Funcs)])
	clear(m.Consts[:cap(m.Consts)])
}

// wantNew asks for P14.3 of a program, whatever Generate answers.
func wantNew(t *testing.T, p api.Prog) api.Errno {
	t.Helper()
	m, e := Generate(p)
	want := copied(m)
	var o owner
	arg := o.prog(p)
	before := o.all()
	first, e1 := Generate(arg)
	second, e2 := Generate(arg)
	if o.all() != before {
		t.Fatal("what was handed in is changed")
	}
	if share(slices.Concat(o.spans, spans(first), spans(second))) {
		t.Fatal("memory is shared")
	}
	for _, wipe := range o.wipes {
		wipe()
	}
	if e1 != e || e2 != e || !reflect.DeepEqual(copied(first), want) {
		t.Fatalf("%+v, %d, %d; not %+v, %d", first, e1, e2, want, e)
	}
	wipe(first)
	if !reflect.DeepEqual(copied(second), want) {
		t.Fatalf("%+v; not %+v", second, want)
	}
	return e
}

func TestNewMemory(t *testing.T) {
	m := chancer{r: newRand(3)}
	for range 400 {
		if e := wantNew(t, m.prog(t)); e != api.OK {
			t.Fatal(e)
		}
	}
	for _, body := range bodies {
		wantNew(t, loaded(t, handler(body)))
	}
	wantNew(t, loaded(t, "state s: text; fn f(): text { ret \"a text\"; } fn g(): text { ret \"a text\"; } on h(): [int] { set s = \"a text\" + \"another text\"; set s = \"a text\"; }"))
	if e := wantNew(t, built(t, slices.Repeat([]api.Stmt{set(name("n"))}, 9000))); e != api.ErrMany {
		t.Error(e)
	}
}

// One list and one text stand at several places of what is handed in.
func TestSharedParts(t *testing.T) {
	p := loaded(t, "state s: text; fn f(x: int): text { if x > 5 && len(s) < 3 { set s = s + \"a text\"; } ret s; } fn g(x: int): text { ret s; }")
	p.Fns[1].Body = p.Fns[0].Body
	p.Fns[0].Body[0].Else = p.Fns[0].Body[0].Body
	m := wantModule(t, p)
	if share(spans(m)) {
		t.Error("memory is shared")
	}
	if !reflect.DeepEqual(m.Funcs[0], m.Funcs[1]) {
		t.Errorf("%+v", m)
	}
}

// What is answered hangs on the program alone, whatever was asked ahead, and whether its empty lists are nil.
func TestAgain(t *testing.T) {
	m := chancer{r: newRand(4)}
	var progs []api.Prog
	var answers []api.Module
	for range 300 {
		p := m.prog(t)
		progs, answers = append(progs, p), append(answers, copied(wantModule(t, p)))
	}
	for i, p := range slices.Backward(progs) {
		if !reflect.DeepEqual(copied(wantModule(t, p)), answers[i]) {
			t.Fatalf("%+v: not the same again", p)
		}
		if other := (&owner{}).prog(p); !reflect.DeepEqual(copied(wantModule(t, other)), answers[i]) {
			t.Fatalf("%+v: not the same in other memory", p)
		}
	}
}

// Wrong inputs: of programs that no check answered nothing is promised but that the call ends, doesn't panic, and leaves what it is handed alone. What it answers can be run, or is nothing beside ErrMany.

func wantQuiet(t *testing.T, p api.Prog) api.Errno {
	t.Helper()
	m, e := Generate(p)
	if e == api.OK && code.Verify(m, len(p.States)) != api.OK || e != api.OK && (e != api.ErrMany || len(m.Consts)+len(m.Funcs) != 0) {
		t.Fatalf("%+v: %+v, %d", p, m, e)
	}
	return e
}

func TestOthers(t *testing.T) {
	m := chancer{r: newRand(5)}
	seen := map[api.Errno]int{}
	for range 1500 {
		p := m.prog(t)
		for range 1 + m.r.IntN(3) {
			for i := range p.Fns {
				m.spoilStmts(p.Fns[i].Body)
			}
			m.spoilFn(pick(m.r, []*api.Fn{&p.Fns[0], &p.Fns[len(p.Fns)-1]}))
		}
		seen[wantQuiet(t, p)]++
		wantNew(t, p)
	}
	if seen[api.OK] < 100 || seen[api.ErrMany] < 500 {
		t.Error(seen)
	}
	for kind := -1; kind < 18; kind++ {
		for op := -1; op < 16; op++ {
			for n := range 4 {
				x := api.Expr{Kind: kind, Op: op, Args: slices.Repeat([]api.Expr{{Kind: api.EBool}}, n)}
				wantQuiet(t, api.Prog{Fns: []api.Fn{{Result: "int", Body: []api.Stmt{{Kind: api.SRet, E: []api.Expr{x}}}}}})
				s := api.Stmt{Kind: kind, Num: op, Slot: op, E: x.Args, Body: []api.Stmt{{Kind: kind, E: x.Args}}}
				wantQuiet(t, api.Prog{Fns: []api.Fn{{Result: "int", Locals: []string{"int"}, Body: []api.Stmt{s, s}}}})
			}
		}
	}
}

// Beyond the limits of the check.
func TestBeyondTheCheck(t *testing.T) {
	fn := api.Fn{Name: "f", Result: "int"}
	slot := api.Slot{Name: "a", Type: "int"}
	for _, c := range []struct {
		what string
		p    api.Prog
		want api.Errno
	}{
		{"32 functions", api.Prog{Fns: slices.Repeat([]api.Fn{fn}, 32)}, api.OK},
		{"33 functions", api.Prog{Fns: slices.Repeat([]api.Fn{fn}, 33)}, api.ErrMany},
		{"32 states", api.Prog{States: slices.Repeat([]api.Slot{slot}, 32)}, api.OK},
		{"33 states", api.Prog{States: slices.Repeat([]api.Slot{slot}, 33)}, api.ErrMany},
		{"256 locals", api.Prog{Fns: []api.Fn{{Result: "int", Locals: slices.Repeat([]string{"int"}, 256)}}}, api.OK},
		{"257 locals", api.Prog{Fns: []api.Fn{{Result: "int", Locals: slices.Repeat([]string{"int"}, 257)}}}, api.ErrMany},
		{"no type", api.Prog{Fns: []api.Fn{{Result: "no type"}}}, api.ErrMany},
		{"a text of 257 bytes", api.Prog{Fns: []api.Fn{{Result: "text", Body: []api.Stmt{{Kind: api.SRet, E: []api.Expr{{Kind: api.EText, Text: strings.Repeat("a", 257)}}}}}}}, api.ErrMany},
	} {
		if e := wantQuiet(t, c.p); e != c.want {
			t.Errorf("%s: %d, not %d", c.what, e, c.want)
		}
	}
}

func (m *chancer) spoilFn(f *api.Fn) {
	switch m.r.IntN(20) {
	case 0:
		f.Result = pick(m.r, []string{"", "no", "[int", "{int:int}"})
	case 1:
		f.Locals = f.Locals[:len(f.Locals)/2]
	case 2:
		f.Params = append(f.Params, f.Params...)
	}
}

func (m *chancer) spoilStmts(l []api.Stmt) {
	for i := range l {
		s := &l[i]
		if m.r.IntN(12) == 0 {
			switch m.r.IntN(6) {
			case 0:
				s.Kind = m.r.IntN(10) - 1
			case 1:
				s.Slot = pick(m.r, []int{-1, 0, 1, 2, 31, 32, greatest, least})
			case 2:
				s.State = !s.State
			case 3:
				s.E = nil
			case 4:
				s.E = append(s.E, s.E...)
			case 5:
				s.Num = pick(m.r, []int{-1, 0, 1, least, greatest})
			}
		}
		m.spoilExprs(s.E)
		m.spoilStmts(s.Body)
		m.spoilStmts(s.Else)
	}
}

func (m *chancer) spoilExprs(l []api.Expr) {
	for i := range l {
		x := &l[i]
		if m.r.IntN(20) == 0 {
			switch m.r.IntN(5) {
			case 0:
				x.Kind = m.r.IntN(19) - 1
			case 1:
				x.Slot = pick(m.r, []int{-1, 0, 1, 2, 3, 31, 32, greatest, least})
			case 2:
				x.Args = nil
			case 3:
				x.Op = m.r.IntN(17) - 1
			case 4:
				x.Num = pick(m.r, []int{-1, 2, least, greatest})
			}
		}
		m.spoilExprs(x.Args)
	}
}

// As many parts within one another as the bound lets: too much of some things, and not of others.
func TestDeep(t *testing.T) {
	const deep = 1<<16 - 1
	truth, sum := api.Expr{Kind: api.EBool, Num: 1, Type: "bool"}, api.Expr{Kind: api.EState, Type: "int"}
	var ifs []api.Stmt
	for i := range deep {
		truth = api.Expr{Kind: api.ENot, Type: "bool", Args: []api.Expr{truth}}
		sum = api.Expr{Kind: api.EBin, Op: api.OpAdd, Type: "int", Args: []api.Expr{{Kind: api.EState, Type: "int"}, sum}}
		ifs = []api.Stmt{{Kind: api.SIf, E: []api.Expr{{Kind: api.EBool, Num: i % 2, Type: "bool"}}, Body: ifs}}
	}
	for i, body := range [][]api.Stmt{{{Kind: api.SSet, State: true, E: []api.Expr{sum}}}, {{Kind: api.SIf, E: []api.Expr{truth}}}, ifs} {
		p := api.Prog{Version: 1, States: []api.Slot{{Name: "n", Type: "int"}}, Fns: []api.Fn{{Name: "h", On: true, Result: "int", Body: body}}}
		if e := wantQuiet(t, p); e != api.ErrMany {
			t.Errorf("%d: %d", i, e)
		}
	}
	var chain strings.Builder
	for i := range 31 {
		fmt.Fprintf(&chain, "fn f%d(): int { ret f%d(); } ", i+1, i)
	}
	p := loaded(t, "fn f0(): int { ret 7; } "+strings.Replace(chain.String(), "fn f31", "on h", 1))
	if _, o := wantAll(t, p, wantModule(t, p), nil, api.Command{Name: "h"}, 30, 31, 32); o.Value.Num != 7 || o.Fuel != 4096-31 {
		t.Errorf("%+v", o)
	}
}
