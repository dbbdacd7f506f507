package types

import (
	"fmt"
	"math"
	"reflect"
	"slices"
	"strings"
	"testing"

	"quern/api"
	"quern/parse"
	"quern/show"
)

// P10.1: what is said of both calls, by hand.

func times(s string, n int) string { return strings.Repeat(s, n) }

// listed answers so many parts, in which the sign $ stands for the part's number.
func listed(part, between string, n int) string {
	var out []string
	for i := range n {
		out = append(out, strings.ReplaceAll(part, "$", fmt.Sprint(i)))
	}
	return strings.Join(out, between)
}

func short(s string) string {
	if len(s) > 600 {
		return s[:500] + " .. " + s[len(s)-90:]
	}
	return s
}

func told(p api.Prog) string {
	s, e := show.Show(p)
	if e != api.OK {
		s = fmt.Sprintf("%+v", p)
	}
	return short(s)
}

func parsed(t *testing.T, s string) api.Prog {
	t.Helper()
	p, at, e := parse.Parse(s)
	if e != api.OK {
		t.Fatalf("%s: %d, %d: it can't be read", short(s), at, e)
	}
	return p
}

// plainly answers a program whose empty lists are all nil.
func plainly(p api.Prog) api.Prog {
	p.States, p.Fns = slices.Concat(p.States), slices.Concat(p.Fns)
	for i := range p.Fns {
		f := &p.Fns[i]
		f.Params, f.Locals, f.Body = slices.Concat(f.Params), slices.Concat(f.Locals), plainlyStmts(f.Body)
	}
	return p
}

func plainlyStmts(l []api.Stmt) []api.Stmt {
	l = slices.Concat(l)
	for i := range l {
		l[i].E, l[i].Body, l[i].Else = plainlyExprs(l[i].E), plainlyStmts(l[i].Body), plainlyStmts(l[i].Else)
	}
	return l
}

func plainlyExprs(l []api.Expr) []api.Expr {
	l = slices.Concat(l)
	for i := range l {
		l[i].Args = plainlyExprs(l[i].Args)
	}
	return l
}

func same(a, b api.Prog) bool { return reflect.DeepEqual(plainly(a), plainly(b)) }

// wantStop asks for an error at a place, and nothing beside them.
func wantStop(t *testing.T, what string, p api.Prog, at int, want api.Errno) {
	t.Helper()
	if out, got, e := Check(p); got != at || e != want || !same(out, api.Prog{}) {
		t.Errorf("%s: %d, %d; not %d, %d; %+v", short(what), got, e, at, want, out)
	}
}

// wantFault asks for an error at the sign @, which is taken out of the text.
func wantFault(t *testing.T, s string, want api.Errno) {
	t.Helper()
	ahead, behind, found := strings.Cut(s, "@")
	if !found {
		t.Fatalf("%s: no sign", short(s))
	}
	wantStop(t, s, parsed(t, ahead+behind), len(ahead), want)
}

// wantRight asks that a text is right, and that the answer is the plain checker's.
func wantRight(t *testing.T, s string) api.Prog {
	t.Helper()
	p := parsed(t, s)
	out, at, e := Check(p)
	want, _, _ := plainCheck(p)
	if e != api.OK || at != 0 || !same(out, want) {
		t.Errorf("%s: %d, %d; %+v; not %+v", short(s), at, e, out, want)
	}
	return out
}

// What is answered, made by hand.

func num(n int) api.Expr           { return api.Expr{Kind: 1, Num: n, Type: "int"} }
func truth(n int) api.Expr         { return api.Expr{Kind: 2, Num: n, Type: "bool"} }
func quoted(s string) api.Expr     { return api.Expr{Kind: 3, Text: s, Type: "text"} }
func loc(n int, t string) api.Expr { return api.Expr{Kind: 4, Slot: n, Type: t} }
func sta(n int, t string) api.Expr { return api.Expr{Kind: 5, Slot: n, Type: t} }
func call(n int, t string, args ...api.Expr) api.Expr {
	return api.Expr{Kind: 7, Slot: n, Type: t, Args: args}
}
func of(kind int, t string, args ...api.Expr) api.Expr {
	return api.Expr{Kind: kind, Type: t, Args: args}
}
func bin(op int, t string, a, b api.Expr) api.Expr {
	return api.Expr{Kind: 15, Op: op, Type: t, Args: []api.Expr{a, b}}
}
func stmt(kind, slot int, e ...api.Expr) api.Stmt { return api.Stmt{Kind: kind, Slot: slot, E: e} }
func toState(s api.Stmt) api.Stmt {
	s.State = true
	return s
}

func wantProg(t *testing.T, s string, want api.Prog) {
	t.Helper()
	if out := wantRight(t, s); !same(out, want) {
		t.Errorf("%s: %+v; not %+v", short(s), out, want)
	}
}

func TestExamples(t *testing.T) {
	s := "version 1; state n: int; on add(x: int): int { set n = n + x; ret n; }"
	wantProg(t, s, api.Prog{Version: 1, States: []api.Slot{{Name: "n", Type: "int"}}, Fns: []api.Fn{{
		Name: "add", On: true, Params: []api.Slot{{Name: "x", Type: "int"}}, Result: "int", Locals: []string{"int"},
		Body: []api.Stmt{
			{Kind: api.SSet, State: true, E: []api.Expr{{Kind: api.EBin, Op: api.OpAdd, Type: "int", Args: []api.Expr{{Kind: api.EState, Type: "int"}, {Kind: api.ELocal, Type: "int"}}}}},
			{Kind: api.SRet, E: []api.Expr{{Kind: api.EState, Type: "int"}}},
		},
	}}})
	wantFault(t, strings.Replace(s, "+ x", "@+ true", 1), api.ErrType)
	wantFault(t, strings.Replace(s, "+ x", "+ @y", 1), api.ErrName)
	wantFault(t, strings.Replace(s, "ret n", "ret @true", 1), api.ErrType)
}

// A program with every kind of statement and expr.
func TestOrdinary(t *testing.T) {
	wantProg(t, `version 7;
state n: int;
state l: [text];
state m: {text:[bool]};
fn f(a: [bool], b: int): bool { let c = a[b]; ret !c || a[0]; }
fn g(): text { ret "x" + str(-5); }
on h(k: text, v: {int:int}): [text] {
	if has(m, k) && f(m[k], 3) {
		let q = push(l, g());
		set q[1] = k;
		set l = q;
	} else {
		for i to len(l) { set v[i] = i * 2; del v[n]; }
		for j to len(k) { set m["a"] = push(m[k], true); }
		let r = n < 4;
		set r = l != l;
	}
	del m[k];
	set k = g();
	ret l;
}`, api.Prog{
		Version: 7,
		States:  []api.Slot{{Name: "n", Type: "int"}, {Name: "l", Type: "[text]"}, {Name: "m", Type: "{text:[bool]}"}},
		Fns: []api.Fn{
			{
				Name: "f", Params: []api.Slot{{Name: "a", Type: "[bool]"}, {Name: "b", Type: "int"}}, Result: "bool", Locals: []string{"[bool]", "int", "bool"},
				Body: []api.Stmt{
					stmt(api.SLet, 2, of(api.EAt, "bool", loc(0, "[bool]"), loc(1, "int"))),
					stmt(api.SRet, 0, bin(api.OpOr, "bool", of(api.ENot, "bool", loc(2, "bool")), of(api.EAt, "bool", loc(0, "[bool]"), num(0)))),
				},
			}, {
				Name: "g", Result: "text",
				Body: []api.Stmt{stmt(api.SRet, 0, bin(api.OpAdd, "text", quoted("x"), of(api.EStr, "text", of(api.ENeg, "int", num(5)))))},
			}, {
				Name: "h", On: true, Params: []api.Slot{{Name: "k", Type: "text"}, {Name: "v", Type: "{int:int}"}}, Result: "[text]",
				Locals: []string{"text", "{int:int}", "[text]", "int", "int", "bool"},
				Body: []api.Stmt{
					{
						Kind: api.SIf,
						E: []api.Expr{bin(api.OpAnd, "bool", of(api.EHas, "bool", sta(2, "{text:[bool]}"), loc(0, "text")),
							call(0, "bool", of(api.EAt, "[bool]", sta(2, "{text:[bool]}"), loc(0, "text")), num(3)))},
						Body: []api.Stmt{
							stmt(api.SLet, 2, of(api.EPush, "[text]", sta(1, "[text]"), call(1, "text"))),
							stmt(api.SSet, 2, num(1), loc(0, "text")),
							toState(stmt(api.SSet, 1, loc(2, "[text]"))),
						},
						Else: []api.Stmt{
							{Kind: api.SFor, Slot: 3, E: []api.Expr{of(api.ELen, "int", sta(1, "[text]"))}, Body: []api.Stmt{
								stmt(api.SSet, 1, loc(3, "int"), bin(api.OpMul, "int", loc(3, "int"), num(2))),
								stmt(api.SDel, 1, sta(0, "int")),
							}},
							{Kind: api.SFor, Slot: 4, E: []api.Expr{of(api.ELen, "int", loc(0, "text"))}, Body: []api.Stmt{
								toState(stmt(api.SSet, 2, quoted("a"), of(api.EPush, "[bool]", of(api.EAt, "[bool]", sta(2, "{text:[bool]}"), loc(0, "text")), truth(1)))),
							}},
							stmt(api.SLet, 5, bin(api.OpLt, "bool", sta(0, "int"), num(4))),
							stmt(api.SSet, 5, bin(api.OpNe, "bool", sta(1, "[text]"), sta(1, "[text]"))),
						},
					},
					toState(stmt(api.SDel, 2, loc(0, "text"))),
					stmt(api.SSet, 0, call(1, "text")),
					stmt(api.SRet, 0, sta(1, "[text]")),
				},
			},
		},
	})
}

// The numbers of the kinds that the chapter names.
func TestKinds(t *testing.T) {
	c := wantRight(t, `version 1; state m: {int:int}; state l: [int]; fn e(): int {} fn f(a: int): int { let x = a; let y = m; let z = len("");
let u = has(m, 1); let v = push(l, 1); let w = str(1); let r = l[0]; let s = -a; let o = !true; let p = 1 % 2; let q = e(); let b = 0; let c = false; let d = "d"; }`)
	for i, want := range []int{4, 5, 8, 9, 10, 11, 12, 13, 14, 15, 7, 1, 2, 3} {
		s := c.Fns[1].Body[i]
		if s.E[0].Kind != want || s.Slot != i+1 || s.E[0].Type != c.Fns[1].Locals[i+1] {
			t.Errorf("%+v, not of kind %d", s, want)
		}
	}
}

func TestEmptyPrograms(t *testing.T) {
	wantProg(t, "version 3;", api.Prog{Version: 3})
	wantProg(t, "version 3; on f(): {int:text} {}", api.Prog{Version: 3, Fns: []api.Fn{{Name: "f", On: true, Result: "{int:text}"}}})
	wantProg(t, "version 3; fn f(): int { if true {} }", api.Prog{Version: 3, Fns: []api.Fn{{Name: "f", Result: "int", Body: []api.Stmt{stmt(api.SIf, 0, truth(1))}}}})
}

func TestAllTypesOfSlots(t *testing.T) {
	for _, s := range plainTypes {
		c := wantRight(t, "version 1; state a: "+s+"; fn f(b: "+s+"): "+s+" { let c = a; set a = b; ret c; }")
		if !reflect.DeepEqual(c.Fns[0].Locals, []string{s, s}) || c.Fns[0].Body[1].E[0].Type != s {
			t.Errorf("%+v", c)
		}
	}
}

func TestBuiltin(t *testing.T) {
	for _, s := range []string{"len", "has", "push", "str"} {
		if !Builtin(s) {
			t.Error(s)
		}
	}
	others := []string{"", "l", "le", "lens", "len ", " len", "Len", "LEN", "ha", "hass", "has_", "Has", "pus", "pushh", "push1", "pull", "st", "strr", "string", "Str", "len\x00", "lenhas", "len has", "at", "del", "ret", "int", "text", "not", "bin", times("len", 999)}
	for _, s := range append(others, reservedWords...) {
		if Builtin(s) {
			t.Errorf("%q", short(s))
		}
	}
}

// What can't stand in a text, and the version.

func TestVersions(t *testing.T) {
	for n, want := range map[int]api.Errno{
		math.MinInt: api.ErrForm, -2: api.ErrForm, -1: api.ErrForm, 0: api.ErrVersion, 1: api.OK, 2: api.OK, 1<<40 - 1: api.OK, 1 << 40: api.OK,
		1<<40 + 1: api.ErrVersion, 1<<40 + 2: api.ErrVersion, 1 << 41: api.ErrVersion, math.MaxInt: api.ErrVersion,
	} {
		out, at, e := Check(api.Prog{Version: n})
		if e != want || at != 0 || e == api.OK && out.Version != n || e != api.OK && out.Version != 0 {
			t.Errorf("%d: %+v, %d, %d", n, out, at, e)
		}
	}
}

// doing answers a program made by hand, of one function with these statements, and places everywhere.
func doing(l ...api.Stmt) api.Prog {
	p := api.Prog{Version: 1, Fns: []api.Fn{{Name: "f", Result: "int", Body: l}}}
	number(newRand(0), &p)
	return p
}

func returning(x api.Expr) api.Prog { return doing(api.Stmt{Kind: api.SRet, E: []api.Expr{x}}) }

func TestForms(t *testing.T) {
	one := []api.Expr{{Kind: 1}}
	two := append(one, one...)
	slots := func(name, of string) []api.Slot { return []api.Slot{{Name: name, Type: of, At: 5}} }
	fns := func(name, of string, params ...api.Slot) []api.Fn {
		return []api.Fn{{Name: name, Result: of, Params: params, At: 6}}
	}
	for what, p := range map[string]api.Prog{
		"a state without a name":     {Version: 1, States: slots("", "int")},
		"a state with a great name":  {Version: 1, States: slots("A", "int")},
		"a state with a long name":   {Version: 1, States: slots(times("a", 17), "int")},
		"a state named as a word":    {Version: 1, States: slots("ret", "int")},
		"a state without a type":     {Version: 1, States: slots("a", "")},
		"a type with a blank":        {Version: 1, States: slots("a", "{int: int}")},
		"a type that is too deep":    {Version: 1, States: slots("a", "[[[[int]]]]")},
		"a key that is none":         {Version: 1, States: slots("a", "{bool:int}")},
		"a function without a name":  {Version: 1, Fns: fns("", "int")},
		"a function named as a word": {Version: 1, Fns: fns("true", "int")},
		"a result that is no type":   {Version: 1, Fns: fns("f", "number")},
		"a param without a name":     {Version: 1, Fns: fns("f", "int", slots("", "int")...)},
		"a param without a type":     {Version: 1, Fns: fns("f", "int", slots("a", "?")...)},
		"no kind of statement":       doing(api.Stmt{Kind: 0, Name: "a", E: one}),
		"a charge":                   doing(api.Stmt{Kind: api.SCharge, Name: "a", E: one}),
		"a charge without an expr":   doing(api.Stmt{Kind: api.SCharge, Num: 1}),
		"a let without a name":       doing(api.Stmt{Kind: api.SLet, E: one}),
		"a let without an expr":      doing(api.Stmt{Kind: api.SLet, Name: "a"}),
		"a let with two exprs":       doing(api.Stmt{Kind: api.SLet, Name: "a", E: two}),
		"a set without an expr":      doing(api.Stmt{Kind: api.SSet, Name: "a"}),
		"a set with three exprs":     doing(api.Stmt{Kind: api.SSet, Name: "a", E: append(two, one...)}),
		"a del with two exprs":       doing(api.Stmt{Kind: api.SDel, Name: "a", E: two}),
		"an if without an expr":      doing(api.Stmt{Kind: api.SIf}),
		"a for without a name":       doing(api.Stmt{Kind: api.SFor, E: one}),
		"a ret without an expr":      doing(api.Stmt{Kind: api.SRet}),
		"a wrong body":               doing(api.Stmt{Kind: api.SIf, E: one, Body: []api.Stmt{{}}}),
		"a wrong else":               doing(api.Stmt{Kind: api.SIf, E: one, Else: []api.Stmt{{}}}),
		"no kind of expr":            returning(api.Expr{}),
		"a number below 0":           returning(api.Expr{Kind: 1, Num: -1}),
		"a truth of 2":               returning(api.Expr{Kind: 2, Num: 2}),
		"a text with a line's end":   returning(api.Expr{Kind: 3, Text: "\n"}),
		"a text that is too long":    returning(api.Expr{Kind: 3, Text: times("x", 257)}),
		"a local":                    returning(api.Expr{Kind: api.ELocal, Type: "int"}),
		"a state as an expr":         returning(api.Expr{Kind: api.EState, Type: "int"}),
		"a len":                      returning(api.Expr{Kind: api.ELen, Args: []api.Expr{{Kind: 3}}}),
		"a str":                      returning(api.Expr{Kind: api.EStr, Args: one}),
		"a name that is none":        returning(api.Expr{Kind: api.EName, Text: "1"}),
		"a name with args":           returning(api.Expr{Kind: api.EName, Text: "a", Args: one}),
		"a number with args":         returning(api.Expr{Kind: api.EInt, Args: one}),
		"a call of a word":           returning(api.Expr{Kind: api.ECall, Text: "if"}),
		"a bracket with one arg":     returning(api.Expr{Kind: api.EAt, Args: one}),
		"a - with two args":          returning(api.Expr{Kind: api.ENeg, Args: two}),
		"a ! without args":           returning(api.Expr{Kind: api.ENot}),
		"an operator with one arg":   returning(api.Expr{Kind: api.EBin, Op: 9, Args: one}),
		"operator 0":                 returning(api.Expr{Kind: api.EBin, Args: two}),
		"operator 14":                returning(api.Expr{Kind: api.EBin, Op: 14, Args: two}),
		"no kind of expr, 16":        returning(api.Expr{Kind: 16}),
		"a wrong arg of a call":      returning(api.Expr{Kind: api.ECall, Text: "len", Args: []api.Expr{{}}}),
	} {
		wantStop(t, what, p, 0, api.ErrForm)
		p.Version = 0
		wantStop(t, what+", version 0", p, 0, api.ErrForm)
		p.States = append([]api.Slot{{Name: "len", Type: "int", At: 7}}, p.States...)
		wantStop(t, what+", a name twice", p, 0, api.ErrForm)
	}
}

func TestVersionAheadOfNames(t *testing.T) {
	p := parsed(t, "version 0; state len: int; fn len(len: int): int { ret true; }")
	wantStop(t, "version 0", p, 0, api.ErrVersion)
	p.Version = 1<<40 + 1
	wantStop(t, "version 2^40 + 1", p, 0, api.ErrVersion)
}

// A program whose text would be too long can stand in one all the same.
func TestLongPrograms(t *testing.T) {
	var l []api.Stmt
	for range 5000 {
		l = append(l, api.Stmt{Kind: api.SIf, E: []api.Expr{{Kind: 2, Num: 1}}, Body: []api.Stmt{{Kind: api.SRet, E: []api.Expr{{Kind: 1, Num: 77}}}}})
	}
	p := doing(l...)
	if _, e := show.Show(p); e != api.ErrLong {
		t.Fatal("not long enough")
	}
	out, at, e := Check(p)
	want, _, _ := plainCheck(p)
	if e != api.OK || at != 0 || !same(out, want) || len(out.Fns[0].Body) != 5000 {
		t.Errorf("%d, %d", at, e)
	}
	p.Fns[0].Body[4999].Body[0].E[0] = api.Expr{Kind: 2, At: 12345}
	wantStop(t, "long, with a fault at the end", p, 12345, api.ErrType)
	p.Fns[0].Body[4999].Body[0].E[0] = api.Expr{Kind: 4, At: 12345}
	wantStop(t, "long, with a form at the end", p, 0, api.ErrForm)
}

func TestDeepPrograms(t *testing.T) {
	x := api.Expr{Kind: api.EInt, Num: 1, At: 9}
	for range 60000 {
		x = api.Expr{Kind: api.ENeg, At: 8, Args: []api.Expr{x}}
	}
	out, at, e := Check(returning(x))
	if e != api.OK || at != 0 || out.Fns[0].Body[0].E[0].Kind != api.ENeg {
		t.Errorf("%d, %d", at, e)
	}
	s := api.Stmt{Kind: api.SRet, At: 5, E: []api.Expr{{Kind: api.EBool, At: 6}}}
	for range 60000 {
		s = api.Stmt{Kind: api.SIf, E: []api.Expr{{Kind: api.EBool, At: 7}}, Body: []api.Stmt{s}}
	}
	p := api.Prog{Version: 1, Fns: []api.Fn{{Name: "f", Result: "int", Body: []api.Stmt{s}}}}
	wantStop(t, "deep", p, 6, api.ErrType)
}

// Names.

func TestNamesTwice(t *testing.T) {
	for _, s := range []string{
		"state a: int; state @a: int;",
		"state a: int; state b: int; state @a: text;",
		"state a: int; fn @a(): int {}",
		"state a: int; on @a(): int {}",
		"fn @a(): int {} state a: int;",
		"fn a(): int {} fn @a(): int {}",
		"fn a(): int {} on @a(): int {}",
		"on a(): int {} fn @a(x: int): int {}",
		"on a(): int {} fn b(): int {} on @a(): int {}",
		"fn f(@f: int): int {}",
		"fn f(@g: int): int {} fn g(): int {}",
		"fn f(@g: int): int {} on g(): int {}",
		"fn g(): int {} fn f(@g: int): int {}",
		"fn f(@a: int): int {} state a: text;",
		"fn f(a: int, @a: int): int {}",
		"fn f(a: int, b: int, @a: text): int {}",
		"state a: int; fn f(): int { @let a = 1; }",
		"fn f(): int { @let f = 1; }",
		"fn f(): int { @let g = 1; } fn g(): int {}",
		"on g(): int {} fn f(): int { @let g = 1; }",
		"fn f(a: int): int { @let a = 1; }",
		"fn f(): int { let a = 1; @let a = 1; }",
		"fn f(): int { let a = 1; if true { @let a = 1; } }",
		"fn f(): int { let a = 1; if true {} else { @let a = 1; } }",
		"fn f(): int { for i to 1 { @let i = 1; } }",
		"fn f(): int { for i to 1 { if true { @let i = 1; } } }",
		"fn f(): int { for i to 1 { @for i to 1 {} } }",
		"fn f(): int { for i to 1 { for j to 1 { @for i to 1 {} } } }",
		"fn f(): int { let i = 1; @for i to 1 {} }",
		"fn f(i: int): int { @for i to 1 {} }",
		"state i: int; fn f(): int { @for i to 1 {} }",
		"fn f(): int { @for f to 1 {} }",
		"fn f(): int { @for g to 1 {} } fn g(): int {}",
		"fn f(): int { if true { let a = 1; } let a = 1; @let a = 1; }",
		"fn f(): int { for i to 1 {} let i = 1; @let i = 1; }",
		"fn f(): int { let a = 1; if true { let b = 1; if true { let c = 1; } @let a = 1; } }",
	} {
		wantFault(t, "version 1; "+s, api.ErrTwice)
	}
	for _, s := range builtins {
		for _, form := range []string{"state @%s: int;", "fn @%s(): int {}", "on @%s(): int {}", "fn f(@%s: int): int {}", "fn f(): int { @let %s = 1; }", "fn f(): int { @for %s to 1 {} }", "fn f(a: int, @%s: int): int {}"} {
			wantFault(t, "version 1; "+fmt.Sprintf(form, s), api.ErrTwice)
		}
	}
}

func TestNamesOnce(t *testing.T) {
	for _, s := range []string{
		"state lens: int; state hass: int; fn pus(strr: int): int { let le = 1; for st to 1 {} }",
		"fn f(a: int): int { let b = 1; } fn g(a: text, b: text): int {} on h(b: int): int { let a = 1; }",
		"fn f(): int { if true { let a = 1; } else { let a = true; } let a = \"\"; }",
		"fn f(): int { if true { let a = 1; } if true { let a = 2; } for a to 1 {} for a to 2 { } let a = 1; }",
		"fn f(): int { for i to 1 { for j to 1 {} for j to 1 {} let j = 1; } for j to 1 { for i to 1 {} } }",
		"fn f(): int { if true { if true { let a = 1; } let a = 1; } let a = 1; }",
		"fn f(): int { for i to 2 { let a = i; } for i to 2 { let a = true; } let a = 1; let i = true; }",
	} {
		wantRight(t, "version 1; "+s)
	}
}

// A name may bear several locals, if no two are in sight at a time: each has its own number and type.
func TestNamesAgain(t *testing.T) {
	c := wantRight(t, `version 1; fn f(): int { if true { let a = 1; let u = a; } else { let a = true; let u = a; } for a to 9 { let u = a; } let a = "x"; let u = a; }`)
	if want := []string{"int", "int", "bool", "bool", "int", "int", "text", "text"}; !reflect.DeepEqual(c.Fns[0].Locals, want) {
		t.Errorf("%q", c.Fns[0].Locals)
	}
	b := c.Fns[0].Body
	for i, s := range []api.Stmt{b[0].Body[1], b[0].Else[1], b[1].Body[0], b[3]} {
		if want := []int{0, 2, 4, 6}[i]; s.E[0].Slot != want || s.Slot != want+1 || s.E[0].Kind != api.ELocal {
			t.Errorf("%+v", s)
		}
	}
}

func TestSight(t *testing.T) {
	for _, s := range []string{
		"fn f(): int { ret @a; }",
		"fn f(): int { let a = @a; }",
		"fn f(): int { let b = @a; let a = 1; }",
		"fn f(): int { if true { let a = 1; } ret @a; }",
		"fn f(): int { if true { let a = 1; } else { ret @a; } }",
		"fn f(): int { if true {} else { let a = 1; } ret @a; }",
		"fn f(): int { for i to @i {} }",
		"fn f(): int { for i to 1 {} ret @i; }",
		"fn f(): int { for i to 1 { let a = 1; } ret @a; }",
		"fn f(): int { for i to 1 { for j to i {} ret @j; } }",
		"fn f(): int { if true { if true { let a = 1; } ret @a; } }",
		"fn f(a: int): int {} fn g(): int { ret @a; }",
		"fn f(): int { let a = 1; } fn g(): int { ret @a; }",
		"fn f(): int { for i to 1 {} } fn g(): int { ret @i; }",
		"fn f(): int {} fn g(): int { ret @f; }",
		"fn g(): int { ret @g; }",
		"fn g(): int { ret @h; } on h(): int {}",
		"fn f(): int { ret @len; }",
		"fn f(): int { ret @str; }",
		"fn f(): int { ret 1 + @a; }",
		"fn f(): int { ret @a + b; }",
		"state a: [int]; fn f(): int { ret a[@b]; }",
		"fn f(): int { ret @a[b]; }",
		"fn f(): int { ret -@a; }",
		"fn f(): int { if !@a {} }",
		"fn f(): int { ret len(@a); }",
	} {
		wantFault(t, "version 1; "+s, api.ErrName)
	}
	for _, s := range []string{
		"fn f(a: int): int { if true { for i to a { if a == i { ret a + i; } } } ret a; }",
		"fn f(): int { let a = 1; if true { set a = a + 1; let b = a; for i to a + b { set b = i + a; } } else { set a = a; } ret a; }",
		"fn f(): int { ret n; } state n: int;",
	} {
		wantRight(t, "version 1; "+s)
	}
}

func TestMany(t *testing.T) {
	states := func(n int) string { return listed("state s$: int;", " ", n) }
	fns := func(n int) string { return listed("fn f$(): int {}", " ", n) }
	lets := func(n int) string { return listed("let l$ = 1;", " ", n) }
	params := func(n int) string { return listed("p$: int", ", ", n) }
	for _, s := range []string{
		states(31), states(32), fns(31), fns(32), states(32) + fns(32),
		"fn f(" + params(7) + "): int {}", "fn f(" + params(8) + "): int {}", "on f(" + params(8) + "): int {}",
		"fn f(): int { " + lets(31) + " }", "fn f(): int { " + lets(32) + " }",
		"fn f(" + params(8) + "): int { " + lets(24) + " }",
		"fn f(): int { " + lets(30) + " for i to 1 {} for i to 1 {} }",
		"fn f(): int { " + times("for i to 1 {} ", 32) + " }",
		"fn f(): int { " + times("if true { let a = 1; } else { let a = 1; } ", 16) + " }",
		"fn f(): int { " + lets(32) + " } fn g(): int { " + lets(32) + " }",
		states(32) + "fn f(): int { " + lets(32) + " }",
	} {
		wantRight(t, "version 1; "+s)
	}
	for _, s := range []string{
		states(32) + "state @a: int;",
		states(32) + "state @a: int; state b: int;",
		states(32) + "state @s0: int;",
		states(32) + "state @len: int;",
		fns(32) + "fn @a(): int {}",
		fns(32) + "on @a(): int {}",
		fns(32) + "on @f0(): int {}",
		fns(32) + "on @str(): int {}",
		states(32) + fns(32) + "fn @s0(): int {}",
		fns(32) + "fn @g(" + params(9) + "): int {}",
		fns(31) + "fn g(" + params(8) + ", @q: int): int {} fn h(): int {}",
		"fn f(" + params(8) + ", @q: int): int {}",
		"on f(" + params(8) + ", @p0: int): int {}",
		"on f(" + params(8) + ", @f: int): int {}",
		"fn f(" + params(8) + ", @q: int, r: int): int { ret nothing; }",
		"fn e(): int { ret nothing; } fn f(" + params(8) + ", @q: int): int {}",
		"fn f(): int { " + lets(32) + " @let a = 1; }",
		"fn f(): int { " + lets(32) + " @for i to 1 { ret nothing; } }",
		"fn f(" + params(8) + "): int { " + lets(24) + " @let a = 1; }",
		"fn f(" + params(1) + "): int { " + lets(31) + " @for i to 1 {} }",
		"fn f(): int { " + times("for i to 1 {} ", 32) + " @for i to 1 {} }",
		"fn f(): int { " + times("if true { let a = 1; } else { let a = 1; } ", 16) + " if true { @let a = 1; } }",
		"fn f(): int { " + lets(31) + " for i to 1 { @let a = 1; } }",
		"fn f(): int { " + lets(31) + " if true { let a = 1; } @let b = 1; }",
	} {
		wantFault(t, "version 1; "+s, api.ErrMany)
	}
	// ErrTwice goes ahead for locals.
	wantFault(t, "version 1; fn f(): int { "+lets(32)+" @let l0 = 1; }", api.ErrTwice)
	wantFault(t, "version 1; fn f(): int { "+lets(32)+" @for f to 1 {} }", api.ErrTwice)
	wantFault(t, "version 1; fn f(): int { "+lets(32)+" let a = @b; }", api.ErrName)
	wantFault(t, "version 1; fn f(): int { "+lets(32)+" for a to @true {} }", api.ErrType)
}

// set and del.

func TestTargets(t *testing.T) {
	for s, want := range map[string]api.Errno{
		"fn f(): int { @set a = 1; }":                                                         api.ErrName,
		"fn f(): int { @set a = nothing; }":                                                   api.ErrName,
		"fn f(): int { @set a[nothing] = 1; }":                                                api.ErrName,
		"fn f(): int { @del a[1]; }":                                                          api.ErrName,
		"fn f(): int { @set len = 1; }":                                                       api.ErrName,
		"fn f(): int { @set push[1] = 1; }":                                                   api.ErrName,
		"fn f(): int { @del has[1]; }":                                                        api.ErrName,
		"fn f(): int { if true { let a = 1; } @set a = 1; }":                                  api.ErrName,
		"fn f(): int { for i to 1 {} @set i = 1; }":                                           api.ErrName,
		"fn f(a: int): int {} fn g(): int { @set a = 1; }":                                    api.ErrName,
		"fn f(): int { @set f = 1; }":                                                         api.ErrPlace,
		"fn f(): int { @set f = nothing; }":                                                   api.ErrPlace,
		"fn f(): int { @set f[1] = 1; }":                                                      api.ErrPlace,
		"fn f(): int { @del f[1]; }":                                                          api.ErrPlace,
		"fn f(): int { @set g = 1; } fn g(): int {}":                                          api.ErrPlace,
		"fn f(): int { @del g[1]; } on g(): int {}":                                           api.ErrPlace,
		"on g(): int {} fn f(): int { @set g = 1; }":                                          api.ErrPlace,
		"fn f(): int { for i to 1 { @set i = 1; } }":                                          api.ErrPlace,
		"fn f(): int { for i to 1 { @set i = nothing; } }":                                    api.ErrPlace,
		"fn f(): int { for i to 1 { @set i[0] = 1; } }":                                       api.ErrPlace,
		"fn f(): int { for i to 1 { @del i[0]; } }":                                           api.ErrPlace,
		"fn f(): int { for i to 1 { for j to 1 { if true { @set i = 1; } } } }":               api.ErrPlace,
		"state a: int; fn f(): int { @set a[0] = 1; }":                                        api.ErrType,
		"state a: text; fn f(): int { @set a[0] = \"x\"; }":                                   api.ErrType,
		"state a: bool; fn f(): int { @set a[nothing] = nothing; }":                           api.ErrType,
		"fn f(a: int): int { @set a[true] = 1; }":                                             api.ErrType,
		"state a: int; fn f(): int { @del a[0]; }":                                            api.ErrType,
		"state a: text; fn f(): int { @del a[nothing]; }":                                     api.ErrType,
		"state a: bool; fn f(): int { @del a[0]; }":                                           api.ErrType,
		"state a: [int]; fn f(): int { @del a[0]; }":                                          api.ErrType,
		"fn f(a: [{int:int}]): int { @del a[nothing]; }":                                      api.ErrType,
		"state a: [text]; fn f(): int { set a[@true] = \"x\"; }":                              api.ErrType,
		"state a: [text]; fn f(): int { set a[@\"x\"] = nothing; }":                           api.ErrType,
		"state a: [text]; fn f(): int { set a[0] = @0; }":                                     api.ErrType,
		"state a: [text]; fn f(): int { set a[@nothing] = 0; }":                               api.ErrName,
		"state a: [text]; fn f(): int { set a[0] = @nothing; }":                               api.ErrName,
		"state a: {text:int}; fn f(): int { set a[@0] = 1; }":                                 api.ErrType,
		"state a: {text:int}; fn f(): int { set a[\"x\"] = @\"x\"; }":                         api.ErrType,
		"state a: {int:text}; fn f(): int { set a[@\"x\"] = \"x\"; }":                         api.ErrType,
		"state a: {text:int}; fn f(): int { del a[@0]; }":                                     api.ErrType,
		"state a: {int:text}; fn f(): int { del a[@\"x\"]; }":                                 api.ErrType,
		"state a: {int:int}; fn f(): int { del a[@nothing]; }":                                api.ErrName,
		"state a: int; fn f(): int { set a = @true; }":                                        api.ErrType,
		"state a: int; fn f(): int { set a = 1 @+ true; }":                                    api.ErrType,
		"state a: [int]; state b: [text]; fn f(): int { set a = @b; }":                        api.ErrType,
		"state a: {int:int}; state b: [int]; fn f(): int { set a = @b; }":                     api.ErrType,
		"state a: {int:int}; state b: {text:int}; fn f(b2: {int:int}): int { set b2 = @b; }":  api.ErrType,
		"fn f(): int { let a = 1; set a = @\"x\"; }":                                          api.ErrType,
		"fn f(): int { let a = 1; if true { let b = true; set b = @a; } }":                    api.ErrType,
		"fn f(a: [[int]]): int { set a[0] = @0; }":                                            api.ErrType,
		"fn f(a: {text:[int]}, b: [int]): int { set a[\"x\"] = b; set a[\"x\"] = @a; }":       api.ErrType,
		"fn f(a: int): int { for i to a { set a = i; set a = (i @== a); } }":                  api.ErrType,
		"state a: int; fn f(): int { set a = 1; } fn g(a2: int): int { @set a3 = 1; }":        api.ErrName,
		"state a: {int:{int:int}}; fn f(): int { set a[1] = a[1]; del a[1]; set a = a@[1]; }": api.ErrType,
	} {
		wantFault(t, "version 1; "+s, want)
	}
	for _, s := range []string{
		"state a: int; state b: [text]; state c: {text:bool}; state d: {int:[int]}; fn f(e: int, g: [text], h: {text:bool}): int { set a = e; set b = g; set c = h; set e = a; set g = b; set h = c; set b[a] = \"x\"; set g[e] = b[0]; set c[\"x\"] = true; set h[g[1]] = false; del c[\"\"]; del h[b[2]]; del d[5]; set d[a] = d[e]; }",
		"fn f(): int { let a = 1; set a = 2; for i to 1 { set a = i; let b = i; set b = a; } }",
	} {
		wantRight(t, "version 1; "+s)
	}
}

// Calls.

func TestCalls(t *testing.T) {
	const two = "fn two(a: int, b: text): bool {} "
	for s, want := range map[string]api.Errno{
		"fn f(): int { ret @f(); }":                                          api.ErrName,
		"fn f(a: int): int { ret @f(nothing); }":                             api.ErrName,
		"fn f(): int { ret @g(); } fn g(): int {}":                           api.ErrName,
		"on h(): int {} fn f(): int { ret @h(); }":                           api.ErrName,
		"on h(): int {} on f(): int { ret @h(); }":                           api.ErrName,
		"on h(a: int): int {} fn f(): int { ret @h(nothing, 1); }":           api.ErrName,
		"on f(): int { ret @f(); }":                                          api.ErrName,
		"fn f(): int { ret @g(); } on g(): int {}":                           api.ErrName,
		"fn f(): int { ret @nowhere(nothing); }":                             api.ErrName,
		"state a: int; fn f(): int { ret @a(); }":                            api.ErrName,
		"fn f(a: int): int { ret @a(); }":                                    api.ErrName,
		"fn f(): int { let a = 1; ret @a(1); }":                              api.ErrName,
		"fn f(): int { for i to 1 { ret @i(); } }":                           api.ErrName,
		"fn f(): int { ret @lens(1); }":                                      api.ErrName,
		"fn e(): int {} fn f(): int { ret @e(1); }":                          api.ErrType,
		two + "fn f(): bool { ret @two(); }":                                 api.ErrType,
		two + "fn f(): bool { ret @two(1); }":                                api.ErrType,
		two + "fn f(): bool { ret @two(nothing); }":                          api.ErrType,
		two + "fn f(): bool { ret @two(1, \"\", 1); }":                       api.ErrType,
		two + "fn f(): bool { ret @two(nothing, nothing, nothing); }":        api.ErrType,
		two + "fn f(): bool { ret two(@\"\", nothing); }":                    api.ErrType,
		two + "fn f(): bool { ret two(1, @1); }":                             api.ErrType,
		two + "fn f(): bool { ret two(@true, 1); }":                          api.ErrType,
		two + "fn f(): bool { ret two(@nothing, 1); }":                       api.ErrName,
		two + "fn f(): bool { ret two(1, @nothing); }":                       api.ErrName,
		two + "fn f(): bool { ret two(1 @+ true, 1); }":                      api.ErrType,
		two + "fn f(): int { ret @two(1, \"\"); }":                           api.ErrType,
		two + "fn f(): int { ret two(1, \"\") @+ 1; }":                       api.ErrType,
		two + "fn f(): bool { ret two(len(@5), 1); }":                        api.ErrType,
		two + "fn f(): bool { ret two(1, str(@true)); }":                     api.ErrType,
		"fn e(a: [int]): int {} fn f(b: [text]): int { ret e(@b); }":         api.ErrType,
		"fn e(a: {int:int}): int {} fn f(b: {text:int}): int { ret e(@b); }": api.ErrType,
	} {
		wantFault(t, "version 1; "+s, want)
	}
	c := wantRight(t, "version 1; on h(): int {} "+two+"fn e(): int {} on g(x: bool): bool { let u = e(); ret two(e() + u, str(e())); } fn k(): bool { ret two(1, \"\"); }")
	if g := c.Fns[3]; g.Body[0].E[0].Slot != 2 || g.Body[0].E[0].Kind != api.ECall || g.Body[1].E[0].Slot != 1 || c.Fns[4].Body[0].E[0].Slot != 1 {
		t.Errorf("%+v", c)
	}
	wantRight(t, "version 1; "+listed("fn f$(a: int): int { ret a; }", " ", 31)+" on g(a: int): int { ret "+listed("f$(a)", " + ", 31)+"; }")
}

var fewTypes = strings.Fields("int bool text [int] [text] [[int]] {int:int} {text:int} {int:text} {text:[int]} {text:{int:int}} [{text:bool}]")

func TestBuiltinsWithEachType(t *testing.T) {
	form := "version 1; fn f(a: %s, b: %s): int { let c = %s; }"
	for _, a := range plainTypes {
		container := strings.ContainsAny(a, "[{")
		if s := fmt.Sprintf(form, a, "int", "len(@a)"); container || a == "text" {
			c := wantRight(t, strings.Replace(s, "@", "", 1))
			if x := c.Fns[0].Body[0].E[0]; x.Kind != api.ELen || x.Type != "int" || len(x.Args) != 1 {
				t.Errorf("%s: %+v", a, x)
			}
		} else {
			wantFault(t, s, api.ErrType)
		}
		if s := fmt.Sprintf(form, a, "int", "str(@a)"); a == "int" {
			c := wantRight(t, strings.Replace(s, "@", "", 1))
			if x := c.Fns[0].Body[0].E[0]; x.Kind != api.EStr || x.Type != "text" || len(x.Args) != 1 {
				t.Errorf("%s: %+v", a, x)
			}
		} else {
			wantFault(t, s, api.ErrType)
		}
		for _, b := range fewTypes {
			wantPair(t, a, b, "has(a, b)", strings.HasPrefix(a, "{"), strings.HasPrefix(a, "{"+b+":"), "bool", api.EHas)
			wantPair(t, a, b, "push(a, b)", strings.HasPrefix(a, "["), a == "["+b+"]", a, api.EPush)
		}
	}
}

// wantPair asks for a call with arguments a and b of these types: whether the first fits, whether both fit, and of which type and kind it is then.
func wantPair(t *testing.T, a, b, call string, first, both bool, want string, kind int) {
	t.Helper()
	s := fmt.Sprintf("version 1; fn f(a: %s, b: %s): int { let c = %s; }", a, b, call)
	switch {
	case both:
		if x := wantRight(t, s).Fns[0].Body[0].E[0]; x.Kind != kind || x.Type != want || len(x.Args) != 2 {
			t.Errorf("%s: %+v", s, x)
		}
	case first:
		wantFault(t, strings.Replace(s, ", b);", ", @b);", 1), api.ErrType)
	default:
		wantFault(t, strings.Replace(s, "(a, ", "(@a, ", 1), api.ErrType)
		wantFault(t, strings.Replace(strings.Replace(s, "(a, ", "(@a, ", 1), ", b);", ", nothing);", 1), api.ErrType)
	}
}

func TestBuiltinsWithEachCount(t *testing.T) {
	right := map[string]string{"len": `"x"`, "has": "m, 1", "push": "l, 1", "str": "1"}
	for name, args := range right {
		count := strings.Count(args, ",") + 1
		for n := range 5 {
			for _, arg := range []string{"1", "m", "l", `"x"`, "nothing"} {
				if n != count {
					wantFault(t, "version 1; state m: {int:int}; state l: [int]; fn f(): int { let a = @"+name+"("+listed(arg, ", ", n)+"); }", api.ErrType)
				}
			}
		}
		wantRight(t, "version 1; state m: {int:int}; state l: [int]; fn f(): int { let a = "+name+"("+args+"); }")
		wantFault(t, "version 1; state m: {int:int}; state l: [int]; fn f(): int { let a = @"+name+"("+args+", 1); }", api.ErrType)
	}
	for _, s := range []string{"len(@a)", "str(@a)", "has(@a, b)", "push(@a, b)", "has(m, @b)", "push(l, @b)", "len(str(@b))"} {
		wantFault(t, "version 1; state m: {int:int}; state l: [int]; fn f(): int { let c = "+s+"; }", api.ErrName)
	}
}

func TestOperatorsWithEachPair(t *testing.T) {
	for i, mark := range opMarks {
		for _, a := range fewTypes {
			for _, b := range fewTypes {
				s := fmt.Sprintf("version 1; fn f(a: %s, b: %s): int { let c = a @%s b; }", a, b, mark)
				want := ""
				switch {
				case a != b:
				case i < 2 && a == "bool":
					want = "bool"
				case i == 2 || i == 3:
					want = "bool"
				case i >= 4 && i < 8 && (a == "int" || a == "text"):
					want = "bool"
				case i == 8 && (a == "int" || a == "text"):
					want = a
				case i > 8 && a == "int":
					want = "int"
				}
				if want == "" {
					wantFault(t, s, api.ErrType)
					continue
				}
				c := wantRight(t, strings.Replace(s, "@", "", 1))
				if x := c.Fns[0].Body[0].E[0]; x.Kind != api.EBin || x.Op != i+1 || x.Type != want || len(x.Args) != 2 {
					t.Errorf("%s: %+v", s, x)
				}
			}
		}
	}
}

// A mark's fault stands behind those of both its sides.
func TestOperatorsBehindTheirSides(t *testing.T) {
	for _, mark := range opMarks {
		for s, want := range map[string]api.Errno{
			"@a %s 1":                    api.ErrName,
			"m %s @a":                    api.ErrName,
			"m %s (-@true)":              api.ErrType,
			"m %s (1 @+ true)":           api.ErrType,
			"(1 @+ true) %s m":           api.ErrType,
			"(1 @+ true) %s (true + 1)":  api.ErrType,
			"@a %s (1 + true)":           api.ErrName,
			"len(@1) %s (1 + true)":      api.ErrType,
			"m %s len(m[@true])":         api.ErrType,
			"\"x\" %s @nowhere(1, true)": api.ErrName,
		} {
			s = strings.Replace(s, "%s", mark, 1)
			wantFault(t, "version 1; state m: {int:int}; fn f(): int { let c = "+s+"; }", want)
		}
	}
}

func TestBracketsWithEachType(t *testing.T) {
	for _, a := range plainTypes {
		for _, b := range fewTypes {
			s := fmt.Sprintf("version 1; fn f(a: %s, b: %s): int { let c = a[b]; }", a, b)
			parts := shapes[a]
			switch {
			case parts.kind == "":
				wantFault(t, strings.Replace(s, "a[b]", "a@[b]", 1), api.ErrType)
				wantFault(t, strings.Replace(s, "a[b]", "a@[nothing]", 1), api.ErrType)
			case parts.key != b:
				wantFault(t, strings.Replace(s, "a[b]", "a[@b]", 1), api.ErrType)
			default:
				if x := wantRight(t, s).Fns[0].Body[0].E[0]; x.Kind != api.EAt || x.Type != parts.inner {
					t.Errorf("%s: %+v", s, x)
				}
			}
		}
	}
	wantFault(t, "version 1; fn f(a: [[int]]): int { ret a[0][1]@[2]; }", api.ErrType)
	wantFault(t, "version 1; fn f(a: [[int]]): int { ret a@[0]; }", api.ErrType)
	wantFault(t, "version 1; fn f(): int { ret 1@[0]; }", api.ErrType)
	wantFault(t, "version 1; fn f(): int { ret (1 @+ true)[0]; }", api.ErrType)
	wantFault(t, "version 1; fn f(): int { ret @a[b]; }", api.ErrName)
	wantRight(t, "version 1; fn f(a: {text:{int:[text]}}): text { ret a[a[\"\"][1][2]][len(a)][0]; }")
}

// What is asked of an expr in each place where a type is asked: any other one is at fault there.
func TestAsked(t *testing.T) {
	for _, want := range fewTypes {
		places := map[string]string{
			"ret @x;":              want,
			"set s = @x;":          want,
			"set p = @x;":          want,
			"let y = g(@x);":       want,
			"let y = h(1, @x);":    want,
			"let y = push(l, @x);": want,
			"set l[0] = @x;":       want,
			"set m[0] = @x;":       want,
			"if @x {}":             "bool",
			"let y = !@x;":         "bool",
			"for i to @x {}":       "int",
			"let y = -@x;":         "int",
			"let y = str(@x);":     "int",
			"set l[@x] = s;":       "int",
			"set m[@x] = s;":       "int",
			"set w[@x] = s;":       "text",
			"del m[@x];":           "int",
			"del w[@x];":           "text",
			"let y = has(m, @x);":  "int",
			"let y = has(w, @x);":  "text",
			"let y = l[@x];":       "int",
			"let y = m[@x];":       "int",
			"let y = w[@x];":       "text",
		}
		head := strings.ReplaceAll("version 1; state s: T; state l: [T]; state m: {int:T}; state w: {text:T}; fn g(a: T): int {} fn h(a: int, b: T): int {} fn f(p: T, x: X): T { ", "T", want)
		for s, ask := range places {
			for _, x := range fewTypes {
				text := strings.Replace(head, "X", x, 1) + s + " }"
				if x == ask {
					wantRight(t, strings.Replace(text, "@", "", 1))
				} else {
					wantFault(t, text, api.ErrType)
				}
				wantFault(t, strings.Replace(text, "@x", "@nothing", 1), api.ErrName)
				wantFault(t, strings.Replace(text, "@x", "(1 @+ true)", 1), api.ErrType)
			}
		}
	}
}

func TestLiterals(t *testing.T) {
	for s, want := range map[string]string{"0": "int", "9223372036854775807": "int", "true": "bool", "false": "bool", `""`: "text", `"int"`: "text", `"a\"\\"`: "text"} {
		for _, of := range fewTypes {
			text := "version 1; fn f(): " + of + " { ret @" + s + "; }"
			if of == want {
				wantRight(t, strings.Replace(text, "@", "", 1))
			} else {
				wantFault(t, text, api.ErrType)
			}
		}
	}
	wantProg(t, `version 1; fn f(): text { ret "a\"\\"; }`, api.Prog{Version: 1, Fns: []api.Fn{{Name: "f", Result: "text", Body: []api.Stmt{stmt(api.SRet, 0, quoted(`a"\`))}}}})
	wantProg(t, "version 1; fn f(): int { ret 9223372036854775807; }", api.Prog{Version: 1, Fns: []api.Fn{{Name: "f", Result: "int", Body: []api.Stmt{stmt(api.SRet, 0, num(math.MaxInt))}}}})
}

// Of two faults the first in the chapter's order is told.
func TestWhichFaultFirst(t *testing.T) {
	for s, want := range map[string]api.Errno{
		"state a: int; state @a: int; fn a(): int {}":                                     api.ErrTwice,
		"fn f(f: int): int {} state a: int; state @a: int;":                               api.ErrTwice,
		"fn f(): int { ret nothing; } fn g(): int {} fn @f(): int {}":                     api.ErrTwice,
		"fn f(): int { ret nothing; } state @len: int;":                                   api.ErrTwice,
		"fn f(f: int): int { ret nothing; } fn @f(): int {}":                              api.ErrTwice,
		"state s: int; state @s: int; " + listed("state s$: int;", " ", 40):               api.ErrTwice,
		listed("state s$: int;", " ", 32) + "state @x: int; state x: int; state s0: int;": api.ErrMany,
		listed("state s$: int;", " ", 32) + "fn @s1(): int {}":                            api.ErrTwice,
		"fn @len(" + listed("p$: int", ", ", 9) + "): int {}":                             api.ErrTwice,
		"fn f(" + listed("p$: int", ", ", 8) + ", @p0: int): int {} fn f(): int {}":       api.ErrMany,
		"fn f(): int {} fn @f(): int {} fn g(" + listed("p$: int", ", ", 9) + "): int {}": api.ErrTwice,
		"fn f(a: int, @a: int): int { ret nothing; }":                                     api.ErrTwice,
		"fn f(): int { ret @true; } fn g(a: int, a: int): int {}":                         api.ErrType,
		"fn f(): int { ret @nothing; } fn g(): int { ret true; }":                         api.ErrName,
		"fn f(): int { @set f = 1; let f = 1; }":                                          api.ErrPlace,
		"fn f(): int { let f = @nothing; }":                                               api.ErrName,
		"fn f(): int { let f = 1 @+ true; }":                                              api.ErrType,
		"fn f(): int { for f to @nothing {} }":                                            api.ErrName,
		"fn f(): int { for f to @true {} }":                                               api.ErrType,
		"fn f(): int { @for f to 1 { ret nothing; } }":                                    api.ErrTwice,
		"fn f(): int { if @1 { ret nothing; } else { ret true; } }":                       api.ErrType,
		"fn f(): int { if true { ret @nothing; } else { ret true; } }":                    api.ErrName,
		"fn f(): int { if true { ret 1; } else { ret @true; } ret nothing; }":             api.ErrType,
		"fn f(): int { if true { ret 1; } ret @nothing; }":                                api.ErrName,
		"fn f(): int { for i to 1 { @set i = 1; } ret nothing; }":                         api.ErrPlace,
		"fn f(): int { ret @nothing; ret true; }":                                         api.ErrName,
		"state m: {int:int}; fn f(): int { set m[@true] = nothing; }":                     api.ErrType,
		"state m: {int:int}; fn f(): int { set m[@nothing] = true; }":                     api.ErrName,
		"state m: {int:int}; fn f(): int { @set g[true] = nothing; } fn g(): int {}":      api.ErrPlace,
		"fn g(a: int, b: int): int {} fn f(): int { ret g(@true, nothing); }":             api.ErrType,
		"fn g(a: int, b: int): int {} fn f(): int { ret @g(true, nothing, 1); }":          api.ErrType,
		"fn g(a: int, b: int): int {} fn f(): text { ret g(1, @true); }":                  api.ErrType,
		"fn g(a: int, b: int): int {} fn f(): text { ret @g(1, 1); }":                     api.ErrType,
		"state m: {int:int}; fn f(): int { ret (@nothing + true) + (1 + true); }":         api.ErrName,
		"fn f(): int { ret 1 @+ true + nothing; }":                                        api.ErrType,
		"fn f(): int { if -@true == nothing {} }":                                         api.ErrType,
		"fn f(): int { if !@1 {} ret nothing; }":                                          api.ErrType,
		"fn f(): bool { ret @-1; }":                                                       api.ErrType,
		"fn f(): int { ret @!true; }":                                                     api.ErrType,
		"fn f(): int { ret -@!true; }":                                                    api.ErrType,
		"fn f(): int { ret -(1 @< 2); }":                                                  api.ErrType,
		"fn f(): int { ret (((@true))); }":                                                api.ErrType,
	} {
		wantFault(t, "version 1; "+s, want)
	}
}

// Of what the text doesn't hold nothing comes into the answer, and nothing is looked at.
func TestAllElseIsZero(t *testing.T) {
	s := `version 1; state n: int; state m: {text:int}; fn g(a: int): text { ret "x"; } on f(b: text): int { let c = g(len(b)); set m[c] = -1; del m[c]; if !has(m, c) { set n = m[b] + 2; } else { ret 3; } for i to n { set c = str(i); } ret 0; }`
	p := parsed(t, s)
	want, _, e := Check(p)
	if e != api.OK {
		t.Fatal(e)
	}
	for seed := range uint64(20) {
		q := parsed(t, s)
		junk(newRand(seed), &q)
		number(newRand(seed), &q)
		out, at, e := Check(q)
		if !same(out, want) || at != 0 || e != api.OK {
			t.Errorf("%+v, %d, %d", out, at, e)
		}
	}
	wantBare(t, want)
}

// The fault's place is what stands there as At, whatever it is.
func TestPlacesAsTheyAre(t *testing.T) {
	for _, at := range []int{0, -1, 1, 77, math.MinInt, math.MaxInt} {
		x := api.Expr{Kind: api.EBool, At: at}
		wantStop(t, "an expr", api.Prog{Version: 1, Fns: []api.Fn{{Name: "f", Result: "int", At: 3, Body: []api.Stmt{{Kind: api.SRet, E: []api.Expr{x}, At: 4}}}}}, at, api.ErrType)
		wantStop(t, "a statement", api.Prog{Version: 1, Fns: []api.Fn{{Name: "f", Result: "int", At: 3, Body: []api.Stmt{{Kind: api.SSet, Name: "f", E: []api.Expr{{Kind: 1, At: 5}}, At: at}}}}}, at, api.ErrPlace)
		wantStop(t, "a state", api.Prog{Version: 1, States: []api.Slot{{Name: "len", Type: "int", At: at}}}, at, api.ErrTwice)
		wantStop(t, "a function", api.Prog{Version: 1, Fns: []api.Fn{{Name: "has", Result: "int", At: at}}}, at, api.ErrTwice)
		wantStop(t, "a param", api.Prog{Version: 1, Fns: []api.Fn{{Name: "f", Result: "int", At: 3, Params: []api.Slot{{Name: "f", Type: "int", At: at}}}}}, at, api.ErrTwice)
	}
}
