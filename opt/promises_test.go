package opt

import (
	"cmp"
	"reflect"
	"slices"
	"strings"
	"testing"
	"unsafe"

	"quern/api"
	"quern/sem"
	"quern/value"
)

// P12.1, by chance, against the plain model.

// wantModel asks that a program becomes what the plain model makes of it; and for P12.3.
func wantModel(t *testing.T, m *maker, p api.Prog, done map[string]int) api.Prog {
	t.Helper()
	out := Optimize(p)
	if want := plainOptimize(m.r, p, done); !reflect.DeepEqual(copyProg(out), want) {
		t.Fatalf("%+v: %+v; not %+v", p, out, want)
	}
	wantNoMore(t, p, out)
	return out
}

// wantNoMore asks for P12.3.
func wantNoMore(t *testing.T, p, out api.Prog) {
	t.Helper()
	if again := Optimize(out); !reflect.DeepEqual(copyProg(again), copyProg(out)) {
		t.Fatalf("%+v: %+v; then %+v", p, out, again)
	}
	stmts, exprs := progNodes(p)
	fewer, less := progNodes(out)
	if len(fewer) > len(stmts) || len(less) > len(exprs) {
		t.Fatalf("%+v: %d statements, %d exprs; then %d, %d", p, len(stmts), len(exprs), len(fewer), len(less))
	}
}

// charged puts charges of all sizes into statements.
func (m *maker) charged(l []api.Stmt) []api.Stmt {
	for i := range l {
		l[i].Body, l[i].Else = m.charged(l[i].Body), m.charged(l[i].Else)
	}
	if m.r.IntN(4) == 0 {
		s := api.Stmt{Kind: api.SCharge, Num: pick(m.r, []int{least, -3, -1, 0, 0, 1, 2, 10, 5000, greatest})}
		l = slices.Insert(l, m.r.IntN(len(l)+1), s)
	}
	return l
}

// chance makes a program, now and then with charges in it.
func (m *maker) chance(t *testing.T) api.Prog {
	t.Helper()
	p := loaded(t, m.prog())
	if m.r.IntN(3) == 0 {
		for i := range p.Fns {
			p.Fns[i].Body = m.charged(p.Fns[i].Body)
		}
	}
	return p
}

func TestRandomPrograms(t *testing.T) {
	m := maker{r: newRand(3)}
	done := map[string]int{}
	for range 3000 {
		p := m.chance(t)
		wantModel(t, &m, p, done)
		stmts, exprs := progNodes(p)
		for _, x := range exprs {
			if Quiet(x) != plainQuiet(x) {
				t.Fatalf("%s: quiet is %v", shown(x), Quiet(x))
			}
		}
		for range 5 {
			if x := pick(m.r, append(exprs, api.Expr{Kind: api.EInt, Type: "int"})); !reflect.DeepEqual(copyExpr(Fold(x)), copyExpr(plainFold(m.r, x))) {
				t.Fatalf("%s: %+v", shown(x), Fold(x))
			}
			if len(stmts) > 0 {
				l := pick(m.r, stmts).Body
				if got, want := Block(l), plainBlock(m.r, l, map[string]int{}); !reflect.DeepEqual(copyStmts(got), copyStmts(want)) {
					t.Fatalf("%s: %s; not %s", told(l), told(got), told(want))
				}
			}
		}
	}
	rules := strings.Split("the first decides,the first doesn't decide,the second doesn't decide,constant 8 0,constant 11 0,constant 13 0,constant 14 0,constant 15 3,constant 15 4,constant 15 5,constant 15 6,constant 15 7,constant 15 8,constant 15 9,constant 15 10,constant 15 11,constant 15 12,constant 15 13,if true,if false,if quiet,for 0,for n,charge 0,behind a ret", ",")
	for _, rule := range rules {
		if done[rule] < 50 {
			t.Errorf("%s: too seldom: %d", rule, done[rule])
		}
	}
	if len(done) != len(rules) {
		t.Errorf("rules: %v", done)
	}
}

// P12.2

func sameValue(a, b api.Value) bool { return value.Compare(a, b) == 0 }

// wantSame asks that a call of a program and of what it becomes are the same, and answers what the call answers.
func wantSame(t *testing.T, p, q api.Prog, states []api.Value, c api.Command, fuel int) api.Outcome {
	t.Helper()
	a, first := sem.Call(p, states, c, fuel)
	b, second := sem.Call(q, states, c, fuel)
	if !slices.EqualFunc(a, b, sameValue) || first.Err != second.Err || first.Fuel != second.Fuel || !sameValue(first.Value, second.Value) {
		t.Fatalf("%+v: %s(%+v) of %+v with %d: %+v, %+v; then %+v, %+v", p, c.Name, c.Args, states, fuel, a, first, b, second)
	}
	return first
}

// wantSameAll asks so with much fuel, just enough, one too few, none, and others.
func wantSameAll(t *testing.T, p, q api.Prog, states []api.Value, c api.Command, others ...int) api.Outcome {
	t.Helper()
	o := wantSame(t, p, q, states, c, 4096)
	spent := 4096 - o.Fuel
	for _, fuel := range append([]int{spent, spent - 1, spent + 1, spent / 2, 0, 1, -1, 5000}, others...) {
		wantSame(t, p, q, states, c, fuel)
	}
	return o
}

func TestSame(t *testing.T) {
	m := maker{r: newRand(4)}
	seen, less, spent := map[api.Errno]int{}, 0, 0
	for range 2500 {
		p := m.chance(t)
		q := Optimize(p)
		a, _ := progNodes(p)
		b, _ := progNodes(q)
		if len(b) < len(a) {
			less++
		}
		for range 5 {
			states := m.states()
			if m.r.IntN(40) == 0 {
				states = states[1:]
			}
			o := wantSameAll(t, p, q, states, m.command(), m.r.IntN(40), m.r.IntN(4096))
			seen[o.Err]++
			if o.Err == api.OK && o.Fuel < 4096 {
				spent++
			}
		}
	}
	for _, e := range []api.Errno{api.OK, api.ErrOver, api.ErrZero, api.ErrKey, api.ErrSize, api.ErrFuel, api.ErrCommand, api.ErrState} {
		if seen[e] < 50 {
			t.Errorf("error %d: too few: %d", e, seen[e])
		}
	}
	if less < 1500 || spent < 500 {
		t.Error("too little is done:", less, spent)
	}
}

// Bodies in which something that can be left out stands beside something that can't, with every fuel that makes a difference.
func TestSameByHand(t *testing.T) {
	m := maker{r: newRand(5)}
	for _, s := range []string{
		"", "ret 1;", "ret 2 * 3 + n;", "ret 1 / 0;", "set n = 5; ret 9223372036854775807 + 1;", "set s = s + \"a\"; ret len(\"abc\" + s);",
		"if g() && false { ret 1; } ret 2;", "if f(1) == 1 || true { ret 1; } ret 2;", "if true || g() { ret 1; } ret 2;", "if 1 / n == 1 && false { ret 1; } ret 2;", "if b && (n / x == 1 || true) { ret 1; } ret 2;",
		"if b {} set n = 1; ret n;", "if g() {} ret 1;", "if n / x == 1 {} ret 1;", "if l[0] == 1 {} ret 1;", "if m[z] == 1 {} ret 1;", "if push(l, 1) == k {} ret 1;", "if -n == 1 {} ret 1;", "if s + z == s {} ret 1;", "if has(m, str(n)) && len(q) < 3 {} ret 1;",
		"for i to 5 {} ret 1;", "for i to 5 {} set n = 1 / 0;", "for i to 0 { ret 1; } ret 2;", "for i to -3 { ret 1; } ret 2;", "for i to 3 { set n = i; } ret n;", "for i to 3 { ret i; } ret 9;", "for i to x % 4 {} ret 1;", "for i to f(3) {} ret 1;", "for i to 1 / 0 {} ret 1;", "for i to 4096 {} ret 1;", "for i to 4097 {} ret 1;", "for i to 9223372036854775807 {} ret 1;", "for i to 3 { for j to 4 {} } ret 1;", "for i to 2 { for j to 0 { ret 5; } } ret 1;", "for i to 4 { if i == 2 { ret i; } for j to 3 {} } ret 1;", "for i to 4 { for j to 3 {} set n = l[i]; } ret n;",
		"if true { ret 1; } set n = 2; ret 3;", "if true { set n = 1; } else { set n = 2; } ret n;", "if false { set n = 1; } else { set n = 2; } ret n;", "if false { ret 1; }", "set n = 1; ret n; set n = 2;", "if b { ret 1; set n = 1; } else { set n = 2; } ret n;",
		"if true { let a = n; set n = 1; set x = a; } let c = x; ret c;", "for i to 3 { if true { let a = i; set n = a; } if b { ret n; } } ret n;", "let a = true && b; let c = a || false; if c { ret 1; } ret 2;", "set l[0] = 1 + 1; del m[\"a\" + \"b\"]; set q[str(1)] = -1; ret len(q) + len(m) + len(l);", "set l[1 - 2] = 1; ret 1;", "set n = -(0 - 9223372036854775807 - 1); ret n;", "ret n; ret 1 / 0;",
	} {
		p := loaded(t, head+"on h(x: int, y: bool, z: text, k: [int], q: {text:int}): int { "+s+" }")
		q := Optimize(p)
		wantNoMore(t, p, q)
		for range 25 {
			c := api.Command{Name: "h"}
			for _, of := range someTypes {
				c.Args = append(c.Args, m.value(of))
			}
			wantSameAll(t, p, q, m.states(), c, 2, 3, 4, 5, 6, 7, 8, 9, 10, 11, 12, 13, 14, 15, 16, 17, 18, 19, 20)
		}
	}
}

// P12.4

// span is the memory that something has.
type span struct{ from, to uintptr }

func listSpan[T any](l []T) span {
	var one T
	from := uintptr(unsafe.Pointer(unsafe.SliceData(l)))
	return span{from, from + uintptr(cap(l))*unsafe.Sizeof(one)}
}

func textSpan(s string) span {
	from := uintptr(unsafe.Pointer(unsafe.StringData(s)))
	return span{from, from + uintptr(len(s))}
}

// memory gathers the lists and texts of an answer. Texts can't be written, so that two of one answer may be the same; none may be an argument's.
type memory struct{ lists, texts []span }

func (m *memory) exprs(l []api.Expr) {
	m.lists = append(m.lists, listSpan(l))
	for _, x := range l {
		m.texts = append(m.texts, textSpan(x.Text), textSpan(x.Type))
		m.exprs(x.Args)
	}
}

func (m *memory) stmts(l []api.Stmt) {
	m.lists = append(m.lists, listSpan(l))
	for _, s := range l {
		m.texts = append(m.texts, textSpan(s.Name))
		m.exprs(s.E)
		m.stmts(s.Body)
		m.stmts(s.Else)
	}
}

func (m *memory) slots(l []api.Slot) {
	m.lists = append(m.lists, listSpan(l))
	for _, s := range l {
		m.texts = append(m.texts, textSpan(s.Name), textSpan(s.Type))
	}
}

func (m *memory) prog(p api.Prog) {
	m.slots(p.States)
	m.lists = append(m.lists, listSpan(p.Fns))
	for _, f := range p.Fns {
		m.texts = append(m.texts, textSpan(f.Name), textSpan(f.Result))
		m.slots(f.Params)
		m.lists = append(m.lists, listSpan(f.Locals))
		for _, s := range f.Locals {
			m.texts = append(m.texts, textSpan(s))
		}
		m.stmts(f.Body)
	}
}

func fromFirst(a, b span) int { return cmp.Compare(a.from, b.from) }

// share tells whether two of these have a byte in common.
func share(l []span) bool {
	l = slices.DeleteFunc(slices.Clone(l), func(s span) bool { return s.from == s.to })
	slices.SortFunc(l, fromFirst)
	for i := 1; i < len(l); i++ {
		if l[i-1].to > l[i].from {
			return true
		}
	}
	return false
}

// owner makes arguments in memory of its own, lists with spare room in which something stands, and texts that can be written over.
type owner struct {
	lists, texts []span
	bytes        [][]byte // of all lists and texts
	wipes        []func()
}

func (o *owner) text(s string) string {
	if s == "" {
		return ""
	}
	b := []byte(s)
	o.bytes = append(o.bytes, b)
	o.wipes = append(o.wipes, func() { clear(b) })
	s = unsafe.String(&b[0], len(b))
	o.texts = append(o.texts, textSpan(s))
	return s
}

func roomy[T any](o *owner, l []T, spare T) []T {
	l = append(slices.Clone(l), spare, spare)
	at := listSpan(l)
	o.bytes = append(o.bytes, unsafe.Slice((*byte)(unsafe.Pointer(&l[0])), at.to-at.from))
	o.wipes = append(o.wipes, func() { clear(l[:cap(l)]) })
	o.lists = append(o.lists, at)
	return l[:len(l)-2]
}

func (o *owner) exprs(l []api.Expr) []api.Expr {
	l = roomy(o, l, api.Expr{Kind: 99})
	for i := range l {
		l[i].Text, l[i].Type, l[i].Args = o.text(l[i].Text), o.text(l[i].Type), o.exprs(l[i].Args)
	}
	return l
}

func (o *owner) stmts(l []api.Stmt) []api.Stmt {
	l = roomy(o, l, api.Stmt{Kind: 77})
	for i := range l {
		l[i].Name, l[i].E, l[i].Body, l[i].Else = o.text(l[i].Name), o.exprs(l[i].E), o.stmts(l[i].Body), o.stmts(l[i].Else)
	}
	return l
}

func (o *owner) slots(l []api.Slot) []api.Slot {
	l = roomy(o, l, api.Slot{Name: "spare"})
	for i := range l {
		l[i].Name, l[i].Type = o.text(l[i].Name), o.text(l[i].Type)
	}
	return l
}

func (o *owner) prog(p api.Prog) api.Prog {
	p.States = o.slots(p.States)
	p.Fns = roomy(o, p.Fns, api.Fn{Name: "spare"})
	for i := range p.Fns {
		f := &p.Fns[i]
		f.Name, f.Result, f.Params, f.Body = o.text(f.Name), o.text(f.Result), o.slots(f.Params), o.stmts(f.Body)
		f.Locals = roomy(o, f.Locals, "spare")
		for j := range f.Locals {
			f.Locals[j] = o.text(f.Locals[j])
		}
	}
	return p
}

// all answers all that the arguments hold, spare room included.
func (o *owner) all() string { return string(slices.Concat(o.bytes...)) }

// wantApart asks that what was handed in is as it was, and that two answers share nothing with it, with each other, or within themselves; then it spoils what was handed in.
func wantApart(t *testing.T, o *owner, before string, answers *memory) {
	t.Helper()
	if o.all() != before {
		t.Fatal("what was handed in is changed")
	}
	if share(slices.Concat(o.lists, answers.lists)) {
		t.Fatal("lists share memory")
	}
	slices.SortFunc(o.texts, fromFirst)
	for _, s := range answers.texts {
		i, same := slices.BinarySearchFunc(o.texts, s, fromFirst)
		if s.from != s.to && (same || i > 0 && o.texts[i-1].to > s.from || i < len(o.texts) && o.texts[i].from < s.to) {
			t.Fatal("a text is an argument's")
		}
	}
	for _, wipe := range o.wipes {
		wipe()
	}
}

// wantNew asks for P12.4 of all calls, of a program and its parts.
func wantNew(t *testing.T, p api.Prog) {
	t.Helper()
	wantNewProg(t, p)
	stmts, exprs := progNodes(p)
	for _, s := range stmts[:min(len(stmts), 6)] {
		wantNewBlock(t, []api.Stmt{s})
	}
	for _, x := range exprs[:min(len(exprs), 12)] {
		wantNewFold(t, x)
	}
}

// wantNewOf asks for P12.4 of one call, which is asked twice; own answers the argument in an owner's memory, look measures an answer, wipe writes over it.
func wantNewOf[T any](t *testing.T, x T, ask, plain func(T) T, own func(*owner, T) T, look func(*memory, T), wipe func(T)) {
	t.Helper()
	want := plain(ask(x))
	var o owner
	var m memory
	arg := own(&o, x)
	before := o.all()
	first, second := ask(arg), ask(arg)
	look(&m, first)
	look(&m, second)
	wantApart(t, &o, before, &m)
	if !reflect.DeepEqual(plain(first), want) {
		t.Fatalf("%+v; not %+v", first, want)
	}
	wipe(first)
	if !reflect.DeepEqual(plain(second), want) {
		t.Fatalf("%+v; not %+v", second, want)
	}
}

func wantNewProg(t *testing.T, p api.Prog) {
	t.Helper()
	wantNewOf(t, p, Optimize, copyProg, (*owner).prog, (*memory).prog, wipeProg)
}

func wantNewBlock(t *testing.T, l []api.Stmt) {
	t.Helper()
	wantNewOf(t, l, Block, copyStmts, (*owner).stmts, (*memory).stmts, wipeStmts)
}

func wantNewFold(t *testing.T, x api.Expr) {
	t.Helper()
	quiet := Quiet(x)
	ask := func(l []api.Expr) []api.Expr {
		if Quiet(l[0]) != quiet {
			t.Fatalf("%+v: not %v", l, quiet)
		}
		return []api.Expr{Fold(l[0])}
	}
	wantNewOf(t, []api.Expr{x}, ask, copyExprs, (*owner).exprs, (*memory).exprs, wipeExprs)
}

func wipeProg(p api.Prog) {
	for _, f := range p.Fns {
		clear(f.Params[:cap(f.Params)])
		clear(f.Locals[:cap(f.Locals)])
		wipeStmts(f.Body)
	}
	clear(p.States[:cap(p.States)])
	clear(p.Fns[:cap(p.Fns)])
}

// wipeStmts writes over lists in all their depths.
func wipeStmts(l []api.Stmt) {
	for _, s := range l {
		wipeExprs(s.E)
		wipeStmts(s.Body)
		wipeStmts(s.Else)
	}
	clear(l[:cap(l)])
}

func wipeExprs(l []api.Expr) {
	for _, x := range l {
		wipeExprs(x.Args)
	}
	clear(l[:cap(l)])
}

func TestNewMemory(t *testing.T) {
	m := maker{r: newRand(6)}
	for range 300 {
		p := m.chance(t)
		wantNew(t, p)
		wantNew(t, Optimize(p)) // nothing is left to do there, and it is new memory all the same
	}
	p := loaded(t, head+"on h(x: int): int { ret x; }")
	p.Fns[3].Body = append(p.Fns[3].Body, api.Stmt{Kind: api.SCharge, Name: "a name", Num: 5})
	p.Fns[3].Body = slices.Insert(p.Fns[3].Body, 0, api.Stmt{Kind: api.SCharge, Name: "a name", Num: 5})
	p.Fns[3].Body[1].E[0].Text = "a text that nobody reads"
	wantNew(t, p)
}

// One list and one text stand at several places of what is handed in.
func TestSharedParts(t *testing.T) {
	sum := body(t, "ret f(n + (1 + 2)) + len(\"a text\" + s);")[0].E
	one := []api.Stmt{{Kind: api.SSet, State: true, E: sum}, {Kind: api.SSet, State: true, E: sum}}
	both := api.Stmt{Kind: api.SIf, E: body(t, "if b && g() {}")[0].E, Body: one, Else: one}
	yes := api.Stmt{Kind: api.SIf, E: body(t, "if 1 < 2 {}")[0].E, Body: one, Else: one}
	l := []api.Stmt{both, yes, both, yes}
	f := api.Fn{Name: "f", Result: "int", Locals: []string{"int", "int"}, Params: []api.Slot{{Name: "x", Type: "int"}}, Body: l}
	out := Optimize(api.Prog{Version: 1, States: f.Params, Fns: []api.Fn{f, f}})
	var m memory
	m.prog(out)
	if share(m.lists) {
		t.Error("a program: lists share memory")
	}
	if len(out.Fns[1].Body) != 6 {
		t.Error(told(out.Fns[1].Body))
	}
	m = memory{}
	m.stmts(Block(l))
	if share(m.lists) {
		t.Error("statements: lists share memory")
	}
	x := api.Expr{Kind: api.EBin, Op: api.OpAdd, Type: "int", Args: []api.Expr{sum[0], sum[0]}}
	m = memory{}
	m.exprs([]api.Expr{Fold(x)})
	if share(m.lists) {
		t.Error("an expr: lists share memory")
	}
}

// What is answered hangs on the arguments alone, whatever was asked ahead.
func TestAgain(t *testing.T) {
	m := maker{r: newRand(7)}
	var progs, answers []api.Prog
	for range 300 {
		p := m.chance(t)
		progs, answers = append(progs, p), append(answers, copyProg(Optimize(p)))
	}
	for i, p := range slices.Backward(progs) {
		if !reflect.DeepEqual(copyProg(Optimize(p)), answers[i]) {
			t.Fatalf("%+v: not the same again", p)
		}
	}
}

// Wrong inputs: of exprs and statements that no check answered nothing is promised but that the calls end, don't panic, and leave what they are handed alone.

func TestOthers(t *testing.T) {
	m := maker{r: newRand(8)}
	for range 600 {
		p := m.chance(t)
		for range 1 + m.r.IntN(3) {
			for i := range p.Fns {
				m.spoilStmts(p.Fns[i].Body)
			}
		}
		wantNew(t, p)
		wantNoMore(t, p, Optimize(p))
	}
	for kind := -1; kind < 18; kind++ {
		for op := -1; op < 16; op++ {
			for n := range 4 {
				for _, of := range []api.Expr{{}, {Kind: api.EInt, Num: 5}, {Kind: api.EBool, Num: 1}, {Kind: api.EBool}, {Kind: api.EBool, Num: 7}, {Kind: api.EText, Text: "a"}, {Kind: api.ELocal, Slot: -1}} {
					wantNewFold(t, api.Expr{Kind: kind, Op: op, Args: slices.Repeat([]api.Expr{of}, n)})
					wantNewBlock(t, []api.Stmt{{Kind: kind, Num: op, E: slices.Repeat([]api.Expr{of}, n)}, {Kind: api.SRet}})
				}
			}
		}
	}
}

func (m *maker) spoilStmts(l []api.Stmt) {
	for i := range l {
		s := &l[i]
		if m.r.IntN(10) == 0 {
			switch m.r.IntN(5) {
			case 0:
				s.Kind = m.r.IntN(10) - 1
			case 1:
				s.E = nil
			case 2:
				s.E = append(s.E, s.E...)
			case 3:
				s.Num = pick(m.r, []int{-1, 0, 1, least, greatest})
			case 4:
				s.Else = append(s.Else, s.Body...)
			}
		}
		m.spoilExprs(s.E)
		m.spoilStmts(s.Body)
		m.spoilStmts(s.Else)
	}
}

func (m *maker) spoilExprs(l []api.Expr) {
	for i := range l {
		x := &l[i]
		if m.r.IntN(15) == 0 {
			switch m.r.IntN(5) {
			case 0:
				x.Kind = m.r.IntN(19) - 1
			case 1:
				x.Args = nil
			case 2:
				x.Args = append(x.Args, x.Args...)
			case 3:
				x.Op = m.r.IntN(17) - 1
			case 4:
				x.Num = pick(m.r, []int{-1, 2, least, greatest})
			}
		}
		m.spoilExprs(x.Args)
	}
}

// As many parts within one another as the bound lets.
func TestDeep(t *testing.T) {
	const deep = 1<<16 - 1
	x, y := api.Expr{Kind: api.EBool, Num: 1, Type: "bool"}, api.Expr{Kind: api.EState, Slot: 1, Type: "bool"}
	one := api.Stmt{Kind: api.SSet, State: true, E: []api.Expr{{Kind: api.EInt, Num: 1, Type: "int"}}}
	var yes, maybe, turns []api.Stmt
	for range deep {
		x, y = api.Expr{Kind: api.ENot, Type: "bool", Args: []api.Expr{x}}, api.Expr{Kind: api.ENot, Type: "bool", Args: []api.Expr{y}}
		yes = []api.Stmt{one, {Kind: api.SIf, E: []api.Expr{{Kind: api.EBool, Num: 1}}, Body: yes}, one}
		maybe = []api.Stmt{{Kind: api.SIf, E: []api.Expr{{Kind: api.EState}}, Else: maybe}}
		turns = []api.Stmt{{Kind: api.SFor, E: []api.Expr{{Kind: api.EInt, Num: 2}}, Body: turns}}
	}
	if got := Fold(x); got.Kind != api.EBool || got.Num != 0 || !Quiet(x) {
		t.Errorf("%+v", got)
	}
	if got := Fold(y); got.Kind != api.ENot || !Quiet(got) {
		t.Errorf("kind %d", got.Kind)
	}
	if l := Block(yes); len(l) != 2*deep {
		t.Errorf("%d statements", len(l))
	}
	if l := Block(maybe); len(l) != 0 {
		t.Errorf("%d statements", len(l))
	}
	if l := Block(turns); len(l) != 1 || l[0].Kind != api.SFor {
		t.Errorf("%d statements", len(l))
	}
}
