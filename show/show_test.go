package show

import (
	"fmt"
	"math"
	"reflect"
	"slices"
	"strconv"
	"strings"
	"testing"

	"quern/api"
	"quern/parse"
)

func times(s string, n int) string { return strings.Repeat(s, n) }

// short is a text as it is told in a failure.
func short(s string) string {
	if len(s) > 400 {
		return strconv.Quote(s[:400]) + " and " + strconv.Itoa(len(s)-400) + " more"
	}
	return strconv.Quote(s)
}

// The four below answer a program in memory of its own, without places; an empty list and none are the same.

func bareExprs(l []api.Expr) []api.Expr {
	var out []api.Expr
	for _, x := range l {
		x.Args, x.At = bareExprs(x.Args), 0
		out = append(out, x)
	}
	return out
}

func bareStmts(l []api.Stmt) []api.Stmt {
	var out []api.Stmt
	for _, s := range l {
		s.E, s.Body, s.Else, s.At = bareExprs(s.E), bareStmts(s.Body), bareStmts(s.Else), 0
		out = append(out, s)
	}
	return out
}

func bareSlots(l []api.Slot) []api.Slot {
	var out []api.Slot
	for _, s := range l {
		s.At = 0
		out = append(out, s)
	}
	return out
}

func bareProg(p api.Prog) api.Prog {
	out := api.Prog{Version: p.Version, States: bareSlots(p.States)}
	for _, f := range p.Fns {
		f.Params, f.Locals, f.Body, f.At = bareSlots(f.Params), slices.Clone(f.Locals), bareStmts(f.Body), 0
		out.Fns = append(out.Fns, f)
	}
	return out
}

// same tells whether two programs are the same but for places.
func same(a, b api.Prog) bool { return reflect.DeepEqual(bareProg(a), bareProg(b)) }

// Exprs and statements.

func num(n int) api.Expr                 { return api.Expr{Kind: 1, Num: n} }
func truth(n int) api.Expr               { return api.Expr{Kind: 2, Num: n} }
func quoted(s string) api.Expr           { return api.Expr{Kind: 3, Text: s} }
func name(s string) api.Expr             { return api.Expr{Kind: 6, Text: s} }
func at(x, place api.Expr) api.Expr      { return api.Expr{Kind: 12, Args: []api.Expr{x, place}} }
func neg(x api.Expr) api.Expr            { return api.Expr{Kind: 13, Args: []api.Expr{x}} }
func not(x api.Expr) api.Expr            { return api.Expr{Kind: 14, Args: []api.Expr{x}} }
func bin(op int, x, y api.Expr) api.Expr { return api.Expr{Kind: 15, Op: op, Args: []api.Expr{x, y}} }

func call(s string, args ...api.Expr) api.Expr {
	return api.Expr{Kind: 7, Text: s, Args: args}
}

func let(s string, x api.Expr) api.Stmt       { return api.Stmt{Kind: 1, Name: s, E: []api.Expr{x}} }
func set(s string, e ...api.Expr) api.Stmt    { return api.Stmt{Kind: 2, Name: s, E: e} }
func del(s string, x api.Expr) api.Stmt       { return api.Stmt{Kind: 3, Name: s, E: []api.Expr{x}} }
func when(x api.Expr, l ...api.Stmt) api.Stmt { return api.Stmt{Kind: 4, E: []api.Expr{x}, Body: l} }
func loop(s string, x api.Expr, l ...api.Stmt) api.Stmt {
	return api.Stmt{Kind: 5, Name: s, E: []api.Expr{x}, Body: l}
}
func ret(x api.Expr) api.Stmt { return api.Stmt{Kind: 6, E: []api.Expr{x}} }

func orElse(s api.Stmt, l ...api.Stmt) api.Stmt {
	s.Else = l
	return s
}

// doing is a program with one function, which has these statements.
func doing(l ...api.Stmt) api.Prog {
	return api.Prog{Version: 1, Fns: []api.Fn{{Name: "f", Result: "int", Body: l}}}
}

func returning(x api.Expr) api.Prog { return doing(ret(x)) }

// wantText asks that a program has this text.
func wantText(t *testing.T, p api.Prog, want string) {
	t.Helper()
	if s, e := Show(p); s != want || e != api.OK {
		t.Errorf("%s: %s, %d; not %s", short(fmt.Sprintf("%+v", p)), short(s), e, short(want))
	}
}

func wantError(t *testing.T, what string, p api.Prog, want api.Errno) {
	t.Helper()
	if s, e := Show(p); s != "" || e != want {
		t.Errorf("%s: %s, %d; not %d", what, short(s), e, want)
	}
}

// wantLines asks that statements in a function's block are these lines.
func wantLines(t *testing.T, l []api.Stmt, lines ...string) {
	t.Helper()
	wantText(t, doing(l...), "version 1;\nfn f(): int {\n"+strings.Join(lines, "\n")+"\n}\n")
}

// wantExpr asks that an expr has this text, wherever it stands without an expr around it, and is read as the same.
func wantExpr(t *testing.T, x api.Expr, want string) {
	t.Helper()
	wantLines(t, []api.Stmt{ret(x)}, "\tret "+want+";")
	wantLines(t, []api.Stmt{let("a", x)}, "\tlet a = "+want+";")
	wantLines(t, []api.Stmt{set("a", x)}, "\tset a = "+want+";")
	wantLines(t, []api.Stmt{set("a", x, num(1))}, "\tset a["+want+"] = 1;")
	wantLines(t, []api.Stmt{set("a", num(1), x)}, "\tset a[1] = "+want+";")
	wantLines(t, []api.Stmt{del("a", x)}, "\tdel a["+want+"];")
	wantLines(t, []api.Stmt{when(x)}, "\tif "+want+" {}")
	wantLines(t, []api.Stmt{loop("a", x)}, "\tfor a to "+want+" {}")
	wantLines(t, []api.Stmt{ret(call("f", x))}, "\tret f("+want+");")
	wantLines(t, []api.Stmt{ret(call("f", num(1), x, num(2)))}, "\tret f(1, "+want+", 2);")
	wantLines(t, []api.Stmt{ret(at(name("a"), x))}, "\tret a["+want+"];")
	back, place, e := parse.Parse("version 1;fn f():int{ret " + want + ";}")
	if e != api.OK || !same(back, returning(x)) {
		t.Errorf("%s is read as %+v, %d, %d; not %+v", want, back, place, e, x)
	}
}

// P8.1: texts.

func TestExample(t *testing.T) {
	p, _, e := parse.Parse("version 1;fn f():int{ret ((1+2)*3)-(-4);}")
	if e != api.OK {
		t.Fatal(e)
	}
	want := strings.Join([]string{"version 1;", "fn f(): int {", "\tret (1 + 2) * 3 - -4;", "}", ""}, "\n")
	wantText(t, p, want)
	wantExpr(t, bin(api.OpSub, bin(api.OpMul, bin(api.OpAdd, num(1), num(2)), num(3)), neg(num(4))), "(1 + 2) * 3 - -4")
}

func TestOrdinary(t *testing.T) {
	wantText(t, api.Prog{
		Version: 7,
		States:  []api.Slot{{Name: "n", Type: "{text:[int]}"}, {Name: "last", Type: "int"}},
		Fns: []api.Fn{
			{
				Name: "put", On: true, Params: []api.Slot{{Name: "k", Type: "text"}, {Name: "v", Type: "int"}}, Result: "bool",
				Body: []api.Stmt{
					orElse(when(call("has", name("n"), name("k")), set("n", name("k"), call("push", at(name("n"), name("k")), name("v")))), ret(truth(0))),
					ret(truth(1)),
				},
			},
			{
				Name: "top", Result: "int",
				Body: []api.Stmt{loop("i", num(3), del("n", quoted("x"))), let("y", not(name("z"))), ret(bin(api.OpMod, neg(name("last")), num(10)))},
			},
		},
	}, `version 7;
state n: {text:[int]};
state last: int;
on put(k: text, v: int): bool {
	if has(n, k) {
		set n[k] = push(n[k], v);
	} else {
		ret false;
	}
	ret true;
}
fn top(): int {
	for i to 3 {
		del n["x"];
	}
	let y = !z;
	ret -last % 10;
}
`)
}

func TestVersionAlone(t *testing.T) {
	wantText(t, api.Prog{}, "version 0;\n")
	wantText(t, api.Prog{Version: 1}, "version 1;\n")
	wantText(t, api.Prog{Version: 90, States: []api.Slot{}, Fns: []api.Fn{}}, "version 90;\n")
	wantText(t, api.Prog{Version: math.MaxInt}, "version 9223372036854775807;\n")
}

func TestItems(t *testing.T) {
	wantText(t, api.Prog{Version: 1, States: []api.Slot{{Name: "a", Type: "int"}}}, "version 1;\nstate a: int;\n")
	wantText(t, api.Prog{Fns: []api.Fn{{Name: "a", Result: "int"}}}, "version 0;\nfn a(): int {}\n")
	wantText(t, api.Prog{Fns: []api.Fn{{Name: "a", On: true, Result: "int"}}}, "version 0;\non a(): int {}\n")
	wantText(t, api.Prog{
		Version: 3,
		States:  []api.Slot{{Name: "z", Type: "bool"}, {Name: "a", Type: "[text]"}, {Name: "z", Type: "{int:{text:[bool]}}"}},
		Fns: []api.Fn{
			{Name: "g", Result: "text", Params: []api.Slot{{Name: "p", Type: "int"}}},
			{Name: "a", On: true, Result: "[int]", Body: []api.Stmt{ret(num(1))}},
			{Name: "g", On: true, Result: "{text:int}", Params: []api.Slot{{Name: "p", Type: "{int:int}"}, {Name: "q", Type: "bool"}, {Name: "p", Type: "[[text]]"}}},
		},
	}, `version 3;
state z: bool;
state a: [text];
state z: {int:{text:[bool]}};
fn g(p: int): text {}
on a(): [int] {
	ret 1;
}
on g(p: {int:int}, q: bool, p: [[text]]): {text:int} {}
`)
}

// How many there are, whether they are there twice, and how deep they are plays no part.
func TestManyAndDeep(t *testing.T) {
	p, want := api.Prog{}, "version 0;\n"
	for range 50 {
		p.States = append(p.States, api.Slot{Name: "a", Type: "int"})
		want += "state a: int;\n"
	}
	params := slices.Repeat([]api.Slot{{Name: "b", Type: "text"}}, 20)
	for range 50 {
		p.Fns = append(p.Fns, api.Fn{Name: "a", Params: params, Result: "int"})
		want += "fn a(b: text" + times(", b: text", 19) + "): int {}\n"
	}
	wantText(t, p, want)
	deep, negs := num(1), "1"
	for range 60 {
		deep, negs = neg(deep), "-"+negs
	}
	wantText(t, returning(deep), "version 1;\nfn f(): int {\n\tret "+negs+";\n}\n")
	s, front, behind := ret(num(1)), "", ""
	for i := range 60 {
		s = when(name("x"), s)
		front += times("\t", i+1) + "if x {\n"
		behind = times("\t", i+1) + "}\n" + behind
	}
	wantText(t, doing(s), "version 1;\nfn f(): int {\n"+front+times("\t", 61)+"ret 1;\n"+behind+"}\n")
}

func TestStatements(t *testing.T) {
	one := num(1)
	wantLines(t, []api.Stmt{let("x", one)}, "\tlet x = 1;")
	wantLines(t, []api.Stmt{set("x", one)}, "\tset x = 1;")
	wantLines(t, []api.Stmt{set("x", one, num(2))}, "\tset x[1] = 2;")
	wantLines(t, []api.Stmt{del("x", one)}, "\tdel x[1];")
	wantLines(t, []api.Stmt{ret(one)}, "\tret 1;")
	wantLines(t, []api.Stmt{when(one)}, "\tif 1 {}")
	wantLines(t, []api.Stmt{when(one, ret(one))}, "\tif 1 {", "\t\tret 1;", "\t}")
	wantLines(t, []api.Stmt{orElse(when(one), ret(one))}, "\tif 1 {} else {", "\t\tret 1;", "\t}")
	wantLines(t, []api.Stmt{orElse(when(one, let("a", one)), ret(one))}, "\tif 1 {", "\t\tlet a = 1;", "\t} else {", "\t\tret 1;", "\t}")
	wantLines(t, []api.Stmt{orElse(when(one, ret(one)), []api.Stmt{}...)}, "\tif 1 {", "\t\tret 1;", "\t}")
	wantLines(t, []api.Stmt{loop("i", one)}, "\tfor i to 1 {}")
	wantLines(t, []api.Stmt{loop("i", one, ret(one), ret(num(2)))}, "\tfor i to 1 {", "\t\tret 1;", "\t\tret 2;", "\t}")
	wantLines(t, []api.Stmt{let("a", one), set("a", one), del("b", one), ret(one), ret(one)}, "\tlet a = 1;", "\tset a = 1;", "\tdel b[1];", "\tret 1;", "\tret 1;")
}

func TestBlocksInBlocks(t *testing.T) {
	inner := orElse(when(name("b"), when(name("c")), loop("i", num(2), ret(num(1)))), when(name("d"), ret(num(2))), loop("j", num(3)))
	wantLines(t, []api.Stmt{orElse(when(name("a"), inner, ret(num(3))), inner), let("x", num(4)), loop("k", num(5), inner)},
		"\tif a {",
		"\t\tif b {",
		"\t\t\tif c {}",
		"\t\t\tfor i to 2 {",
		"\t\t\t\tret 1;",
		"\t\t\t}",
		"\t\t} else {",
		"\t\t\tif d {",
		"\t\t\t\tret 2;",
		"\t\t\t}",
		"\t\t\tfor j to 3 {}",
		"\t\t}",
		"\t\tret 3;",
		"\t} else {",
		"\t\tif b {",
		"\t\t\tif c {}",
		"\t\t\tfor i to 2 {",
		"\t\t\t\tret 1;",
		"\t\t\t}",
		"\t\t} else {",
		"\t\t\tif d {",
		"\t\t\t\tret 2;",
		"\t\t\t}",
		"\t\t\tfor j to 3 {}",
		"\t\t}",
		"\t}",
		"\tlet x = 4;",
		"\tfor k to 5 {",
		"\t\tif b {",
		"\t\t\tif c {}",
		"\t\t\tfor i to 2 {",
		"\t\t\t\tret 1;",
		"\t\t\t}",
		"\t\t} else {",
		"\t\t\tif d {",
		"\t\t\t\tret 2;",
		"\t\t\t}",
		"\t\t\tfor j to 3 {}",
		"\t\t}",
		"\t}",
	)
}

func TestExprs(t *testing.T) {
	for n, want := range map[int]string{0: "0", 1: "1", 9: "9", 10: "10", 1 << 40: "1099511627776", math.MaxInt - 1: "9223372036854775806", math.MaxInt: "9223372036854775807"} {
		wantExpr(t, num(n), want)
	}
	wantExpr(t, truth(0), "false")
	wantExpr(t, truth(1), "true")
	for _, s := range []string{"a", "_", "z9", "_0", "abcdefghijklmn_0", "iff", "re", "texts", "true_"} {
		wantExpr(t, name(s), s)
		wantExpr(t, call(s), s+"()")
	}
	wantExpr(t, call("f", num(1)), "f(1)")
	wantExpr(t, call("f", num(1), name("x")), "f(1, x)")
	wantExpr(t, call("f", call("g", call("h")), bin(api.OpAdd, num(1), num(2)), neg(num(3))), "f(g(h()), 1 + 2, -3)")
	wantText(t, returning(call("f", slices.Repeat([]api.Expr{num(7)}, 100)...)), "version 1;\nfn f(): int {\n\tret f(7"+times(", 7", 99)+");\n}\n")
	wantExpr(t, at(name("a"), num(1)), "a[1]")
	wantExpr(t, neg(num(1)), "-1")
	wantExpr(t, not(truth(1)), "!true")
	for op, mark := range opMarks {
		wantExpr(t, bin(op+1, name("a"), name("b")), "a "+mark+" b")
		wantExpr(t, bin(op+1, quoted(""), call("f")), `"" `+mark+" f()")
	}
}

func TestTexts(t *testing.T) {
	wantExpr(t, quoted(""), `""`)
	wantExpr(t, quoted("a b"), `"a b"`)
	wantExpr(t, quoted(`a"b\c`), `"a\"b\\c"`)
	wantExpr(t, quoted(times("z", 256)), `"`+times("z", 256)+`"`)
	wantExpr(t, quoted(times(`"`, 256)), `"`+times(`\"`, 256)+`"`)
	wantExpr(t, quoted(times(`\`, 256)), `"`+times(`\\`, 256)+`"`)
	all := ""
	for b := range 256 {
		s := string([]byte{byte(b)})
		switch {
		case b < 0x20 || b > 0x7e:
			for _, x := range []string{s, s + "a", "a" + s, "a" + s + "a"} {
				wantError(t, strconv.Quote(x), returning(quoted(x)), api.ErrForm)
			}
		case s == `"` || s == `\`:
			wantExpr(t, quoted(s), `"\`+s+`"`)
		default:
			wantExpr(t, quoted(s), `"`+s+`"`)
			all += s
		}
	}
	wantExpr(t, quoted(all), `"`+all+`"`)
	for _, s := range []string{times("z", 257), times(`"`, 257), times("z", 70000), "é", "a\nb", "\u2028"} {
		wantError(t, short(s), returning(quoted(s)), api.ErrForm)
	}
}

// P8.1: round brackets.

// The operators by what they bind, those that bind least first.
func opLevel(op int) int {
	return slices.IndexFunc([]string{" || ", " && ", " == != < <= > >= ", " + - ", " * / % "}, func(s string) bool {
		return strings.Contains(s, " "+opMarks[op-1]+" ")
	})
}

func TestOperatorsWithinOneAnother(t *testing.T) {
	const compare = 2
	brackets := 0
	a, b, c := name("a"), name("b"), name("c")
	for op := 1; op <= 13; op++ {
		for inner := 1; inner <= 13; inner++ {
			mark, innerMark := " "+opMarks[op-1]+" ", " "+opMarks[inner-1]+" "
			left, right := "a"+innerMark+"b", "b"+innerMark+"c"
			if opLevel(op) > opLevel(inner) || opLevel(op) == compare && opLevel(inner) == compare {
				left = "(" + left + ")"
				brackets++
			}
			if opLevel(inner) <= opLevel(op) {
				right = "(" + right + ")"
				brackets++
			}
			wantExpr(t, bin(op, bin(inner, a, b), c), left+mark+"c")
			wantExpr(t, bin(op, a, bin(inner, b, c)), "a"+mark+right)
			wantExpr(t, bin(op, bin(inner, a, b), bin(inner, b, c)), left+mark+right)
		}
	}
	if brackets != 59+36+59+51 { // of 13 by 13, 59 bind less, 51 as much, 36 of these comparing ones
		t.Errorf("%d brackets", brackets)
	}
}

func TestChains(t *testing.T) {
	a, b, c, d := name("a"), name("b"), name("c"), name("d")
	for op := 1; op <= 13; op++ {
		m := " " + opMarks[op-1] + " "
		fromLeft, fromRight := "a"+m+"b"+m+"c"+m+"d", "a"+m+"(b"+m+"(c"+m+"d))"
		if opLevel(op) == 2 {
			fromLeft = "((a" + m + "b)" + m + "c)" + m + "d"
		}
		wantExpr(t, bin(op, bin(op, bin(op, a, b), c), d), fromLeft)
		wantExpr(t, bin(op, a, bin(op, b, bin(op, c, d))), fromRight)
	}
	wantExpr(t, bin(api.OpOr, bin(api.OpAnd, bin(api.OpLt, bin(api.OpAdd, a, bin(api.OpMul, b, neg(c))), d), a), b), "a + b * -c < d && a || b")
	wantExpr(t, bin(api.OpMod, bin(api.OpSub, bin(api.OpGe, bin(api.OpAnd, bin(api.OpOr, a, b), c), d), a), b), "((((a || b) && c) >= d) - a) % b")
}

// leaves are exprs of each kind that never has brackets around.
func leaves() map[string]api.Expr {
	return map[string]api.Expr{
		"1": num(1), "true": truth(1), "false": truth(0), `"t"`: quoted("t"), "x": name("x"), "f()": call("f"), "f(1 + 2, -3)": call("f", bin(api.OpAdd, num(1), num(2)), neg(num(3))),
		"x[1]": at(name("x"), num(1)), "x[1 + 2]": at(name("x"), bin(api.OpAdd, num(1), num(2))), "x[1][2]": at(at(name("x"), num(1)), num(2)),
	}
}

func TestUnaryMarks(t *testing.T) {
	for s, x := range leaves() {
		wantExpr(t, neg(x), "-"+s)
		wantExpr(t, not(x), "!"+s)
		wantExpr(t, neg(neg(x)), "--"+s)
		wantExpr(t, not(not(x)), "!!"+s)
		wantExpr(t, neg(not(x)), "-!"+s)
		wantExpr(t, not(neg(x)), "!-"+s)
		for op, mark := range opMarks {
			mark = " " + mark + " "
			wantExpr(t, neg(bin(op+1, x, x)), "-("+s+mark+s+")")
			wantExpr(t, not(bin(op+1, x, x)), "!("+s+mark+s+")")
			wantExpr(t, bin(op+1, neg(x), not(x)), "-"+s+mark+"!"+s)
			wantExpr(t, bin(op+1, not(neg(x)), neg(neg(x))), "!-"+s+mark+"--"+s)
			wantExpr(t, not(neg(bin(op+1, neg(x), x))), "!-(-"+s+mark+s+")")
		}
	}
}

func TestSquareBrackets(t *testing.T) {
	for s, x := range leaves() {
		wantExpr(t, at(x, x), s+"["+s+"]")
		wantExpr(t, at(at(x, x), x), s+"["+s+"]["+s+"]")
		wantExpr(t, at(neg(x), neg(x)), "(-"+s+")[-"+s+"]")
		wantExpr(t, at(not(x), not(x)), "(!"+s+")[!"+s+"]")
		wantExpr(t, neg(at(x, x)), "-"+s+"["+s+"]")
		wantExpr(t, not(at(neg(x), x)), "!(-"+s+")["+s+"]")
		wantExpr(t, at(at(neg(x), x), x), "(-"+s+")["+s+"]["+s+"]")
		for op, mark := range opMarks {
			mark = " " + mark + " "
			wantExpr(t, at(bin(op+1, x, x), bin(op+1, x, x)), "("+s+mark+s+")["+s+mark+s+"]")
			wantExpr(t, bin(op+1, at(x, x), at(x, x)), s+"["+s+"]"+mark+s+"["+s+"]")
			wantExpr(t, at(neg(bin(op+1, x, x)), x), "(-("+s+mark+s+"))["+s+"]")
		}
	}
}

// P8.1: what can't stand in a text, one at a time.

func badNames() []string {
	bad := []string{"", "A", "1", "1a", "a b", " a", "a ", "a-", "-a", "a.b", "é", "a\x00", "a\n", "\xff", "aB", "a;", `"a"`, "a#", "abcdefghijklmno_1", times("a", 70000)}
	return append(bad, reservedList...)
}

func badTypes() []string {
	return []string{
		"", "i", "In", "Int", "ints", " int", "int ", "int\n", "a", "[]", "[", "]", "[int", "int]", "[[int]", "[int]]", "[ int]", "[int ]", "[int][int]", "[int,int]",
		"{}", "{int}", "{int:}", "{:int}", "{int:int", "int:int}", "{int int}", "{int: int}", "{int :int}", "{ int:int}", "{int:int }", "{bool:int}", "{[int]:int}", "{a:int}", "{text:a}", "{int:int:int}", "[int}", "{int:int]", "(int)",
		"[[[[int]]]]", "{int:[[{text:bool}]]}", "{text:{text:{text:{text:text}}}}", times("[", 70000), times("[", 70000) + "int" + times("]", 70000), times("{int:", 20000) + "int",
	}
}

var (
	badNumbers   = []int{-1, -2, math.MinInt}
	badTruths    = []int{-1, 2, 3, math.MinInt, math.MaxInt}
	badOps       = []int{-1, 0, 14, 15, math.MinInt, math.MaxInt}
	badStmtKinds = []int{-1, 0, 7, 8, math.MinInt, math.MaxInt}
	badExprKinds = []int{-1, 0, 4, 5, 8, 9, 10, 11, 16, 17, math.MinInt, math.MaxInt}
	badTexts     = []string{"\x1f", "\x7f", "\n", "a\tb", "\x00", "é", "\xff", times("a", 257)}
	anyInts      = []int{0, 1, -1, 2, 14, 99, math.MinInt, math.MaxInt}
	anyTexts     = []string{"", "a", "if", "\n", "{", times("a", 300)}
)

// visitor is called with each part that stands in a program's text.
type visitor struct {
	slot func(*api.Slot)
	fn   func(*api.Fn)
	stmt func(*api.Stmt)
	expr func(*api.Expr)
}

func (v visitor) prog(p *api.Prog) {
	for i := range p.States {
		v.slot(&p.States[i])
	}
	for i := range p.Fns {
		f := &p.Fns[i]
		v.fn(f)
		for j := range f.Params {
			v.slot(&f.Params[j])
		}
		v.stmts(f.Body)
	}
}

func (v visitor) stmts(l []api.Stmt) {
	for i := range l {
		s := &l[i]
		v.stmt(s)
		v.exprs(s.E)
		if s.Kind == api.SIf || s.Kind == api.SFor {
			v.stmts(s.Body)
		}
		if s.Kind == api.SIf {
			v.stmts(s.Else)
		}
	}
}

func (v visitor) exprs(l []api.Expr) {
	for i := range l {
		v.expr(&l[i])
		v.exprs(l[i].Args)
	}
}

// each puts values in a place, one behind the other, and asks something of each; then what stood there is there again.
func each[T any](place *T, ask func(what string), what string, values ...T) {
	before := *place
	for i, v := range values {
		*place = v
		ask(what + " " + strconv.Itoa(i))
	}
	*place = before
}

func exprLists(counts ...int) [][]api.Expr {
	var out [][]api.Expr
	for _, n := range counts {
		out = append(out, slices.Repeat([]api.Expr{num(1)}, n))
	}
	return out
}

// everything is a program in which each kind of part stands at each kind of place.
func everything(t *testing.T) api.Prog {
	t.Helper()
	p, at, e := parse.Parse(`version 1; state a: {text:[int]}; state b: int;
fn f(): bool {}
on g(b: int, c: {int:text}): text {
	let d = -1 + !x * (y - "t");
	set d = a[1][2];
	set d[3] = f() || h(i, "j", -2);
	del d[k];
	if l == true && m < n { ret o; if u { let v = 1; } } else { ret p; for w to 1 { del x[1]; } }
	if false {}
	for q to r % 2 { set a[b] = c; }
	ret (-s)[1];
}
fn h(z: [bool]): int { ret f(); }`)
	if e != api.OK {
		t.Fatal(at, e)
	}
	return p
}

func TestEachThingThatCantStand(t *testing.T) {
	p := everything(t)
	want, _ := plainShow(p)
	wantText(t, p, want)
	asked := 0
	refused := func(what string) {
		asked++
		t.Helper()
		wantError(t, what, p, api.ErrForm)
	}
	each(&p.Version, refused, "the version", badNumbers...)
	visitor{
		slot: func(s *api.Slot) {
			each(&s.Name, refused, "slot "+s.Name+": its name", badNames()...)
			each(&s.Type, refused, "slot "+s.Name+": its type", badTypes()...)
		},
		fn: func(f *api.Fn) {
			each(&f.Name, refused, "function "+f.Name+": its name", badNames()...)
			each(&f.Result, refused, "function "+f.Name+": its result", badTypes()...)
		},
		stmt: func(s *api.Stmt) {
			what := "statement " + strconv.Itoa(s.Kind)
			each(&s.Kind, refused, what+": its kind", badStmtKinds...)
			if s.Kind != api.SIf && s.Kind != api.SRet {
				each(&s.Name, refused, what+": its name", badNames()...)
			}
			if s.Kind != api.SSet {
				each(&s.E, refused, what+": its exprs", exprLists(2)...)
			}
			each(&s.E, refused, what+": its exprs", exprLists(0, 3, 4, 9)...)
		},
		expr: func(x *api.Expr) {
			what := "expr " + strconv.Itoa(x.Kind)
			each(&x.Kind, refused, what+": its kind", badExprKinds...)
			switch x.Kind {
			case api.EInt:
				each(&x.Num, refused, what+": its number", badNumbers...)
			case api.EBool:
				each(&x.Num, refused, what+": its truth", badTruths...)
			case api.EText:
				each(&x.Text, refused, what+": its text", badTexts...)
			case api.EName, api.ECall:
				each(&x.Text, refused, what+": its name", badNames()...)
			case api.EBin:
				each(&x.Op, refused, what+": its operator", badOps...)
			}
			if right := rightArgs(x.Kind); right >= 0 {
				wrong := slices.DeleteFunc([]int{0, 1, 2, 3, 4, 9}, func(n int) bool { return n == right })
				each(&x.Args, refused, what+": its Args", exprLists(wrong...)...)
			}
		},
	}.prog(&p)
	if asked < 2000 {
		t.Errorf("%d things were asked", asked)
	}
	wantText(t, p, want)
}

func TestWhatIsNotLookedAt(t *testing.T) {
	p := everything(t)
	want, _ := plainShow(p)
	asked := 0
	taken := func(what string) {
		asked++
		t.Helper()
		if s, e := Show(p); s != want || e != api.OK {
			t.Errorf("%s: %s, %d; not %s", what, short(s), e, short(want))
		}
	}
	wrong := [][]api.Stmt{{{}}, {{Kind: 99}}, {{Kind: 6}}, {let("if", num(-1))}, {ret(num(1)), ret(num(1))}}
	visitor{
		slot: func(s *api.Slot) { each(&s.At, taken, "a slot's At", anyInts...) },
		fn: func(f *api.Fn) {
			each(&f.At, taken, "a function's At", anyInts...)
			each(&f.Locals, taken, "a function's Locals", nil, []string{}, []string{"?", "int"})
		},
		stmt: func(s *api.Stmt) {
			what := "statement " + strconv.Itoa(s.Kind)
			each(&s.At, taken, what+": At", anyInts...)
			each(&s.Num, taken, what+": Num", anyInts...)
			each(&s.Slot, taken, what+": Slot", anyInts...)
			each(&s.State, taken, what+": State", true, false)
			if s.Kind == api.SIf || s.Kind == api.SRet {
				each(&s.Name, taken, what+": Name", anyTexts...)
			}
			if s.Kind != api.SIf {
				each(&s.Else, taken, what+": Else", wrong...)
			}
			if s.Kind != api.SIf && s.Kind != api.SFor {
				each(&s.Body, taken, what+": Body", wrong...)
			}
		},
		expr: func(x *api.Expr) {
			what := "expr " + strconv.Itoa(x.Kind)
			each(&x.At, taken, what+": At", anyInts...)
			each(&x.Slot, taken, what+": Slot", anyInts...)
			each(&x.Type, taken, what+": Type", anyTexts...)
			if x.Kind != api.EInt && x.Kind != api.EBool {
				each(&x.Num, taken, what+": Num", anyInts...)
			}
			if x.Kind != api.EText && x.Kind != api.EName && x.Kind != api.ECall {
				each(&x.Text, taken, what+": Text", anyTexts...)
			}
			if x.Kind != api.EBin {
				each(&x.Op, taken, what+": Op", anyInts...)
			}
		},
	}.prog(&p)
	if asked < 1000 {
		t.Errorf("%d things were asked", asked)
	}
}

// What does stand in the text is looked at in blocks in blocks too.
func TestBlocksAreLookedAt(t *testing.T) {
	bad := ret(num(-1))
	for what, s := range map[string]api.Stmt{
		"if":           when(num(1), bad),
		"if, behind":   when(num(1), ret(num(1)), bad),
		"else":         orElse(when(num(1)), bad),
		"else, behind": orElse(when(num(1), ret(num(1))), ret(num(1)), bad),
		"for":          loop("i", num(1), bad),
		"in for in if": when(num(1), loop("i", num(1), orElse(when(num(1)), loop("j", num(1), bad)))),
	} {
		wantError(t, what, doing(s), api.ErrForm)
		wantError(t, what, doing(ret(num(1)), s, ret(num(1))), api.ErrForm)
	}
	// The Else of a for that is turned into an if is looked at, and so on.
	s := orElse(loop("i", num(1)), bad)
	wantLines(t, []api.Stmt{s}, "\tfor i to 1 {}")
	s.Kind = api.SIf
	wantError(t, "an if's else", doing(s), api.ErrForm)
	s.Kind, s.Body = api.SRet, []api.Stmt{bad}
	wantLines(t, []api.Stmt{s}, "\tret 1;")
	s.Kind = api.SFor
	wantError(t, "a for's body", doing(s), api.ErrForm)
}

// Every kind of statement with every number of exprs, every kind of expr with every number of Args.
func TestKindsAndNumbers(t *testing.T) {
	for kind := -2; kind <= 20; kind++ {
		for n := range 6 {
			right := kind >= 1 && kind <= 6 && (n == 1 || n == 2 && kind == 2)
			p := doing(api.Stmt{Kind: kind, Name: "x", E: exprLists(n)[0]})
			if _, e := Show(p); (e == api.OK) != right || (e == api.ErrForm) == right {
				t.Errorf("statement %d with %d exprs: %d", kind, n, e)
			}
			known := kind >= 1 && kind <= 15 && kind != 4 && kind != 5 && (kind < 8 || kind > 11)
			right = known && (rightArgs(kind) == n || rightArgs(kind) < 0)
			p = returning(api.Expr{Kind: kind, Text: "x", Op: 1, Args: exprLists(n)[0]})
			if _, e := Show(p); (e == api.OK) != right || (e == api.ErrForm) == right {
				t.Errorf("expr %d with %d Args: %d", kind, n, e)
			}
		}
	}
}

// P8.1: length.

// sized answers a program whose text has just so many bytes.
func sized(n int) api.Prog {
	p := api.Prog{Version: 1}
	n -= len("version 1;\n")
	const line = len("state a: int;\n")
	for n >= 2*line {
		p.States = append(p.States, api.Slot{Name: "a", Type: "int"})
		n -= line
	}
	p.States = append(p.States, api.Slot{Name: "a" + times("b", n-line), Type: "int"})
	return p
}

// wantSize asks that a program's text has so many bytes, and is answered if they aren't too many.
func wantSize(t *testing.T, p api.Prog, size int) {
	t.Helper()
	want := plainText(p)
	if len(want) != size {
		t.Fatalf("the text has %d bytes, not %d", len(want), size)
	}
	if size > 16384 {
		wantError(t, "a text that is too long", p, api.ErrLong)
	} else {
		wantText(t, p, want)
	}
}

func TestLength(t *testing.T) {
	for n := 16384 - 40; n <= 16384+40; n++ {
		wantSize(t, sized(n), n)
	}
	for _, n := range []int{16384, 16385} { // the last bytes are of each kind of part
		room := n - len("version 1;\nfn f(): int {\n\tret ;\n}\n")
		filled := func(end api.Expr, size int) api.Prog {
			args := slices.Repeat([]api.Expr{quoted("")}, (room-len("f()")-size-600)/4)
			left := room - len("f()") - size - 4*len(args)
			for left > 250 {
				args = append(args, quoted(times("x", 100)))
				left -= 104
			}
			return returning(call("f", append(args, quoted(times("x", left-4)), end)...))
		}
		wantSize(t, filled(num(1), 1), n)
		wantSize(t, filled(truth(0), 5), n)
		wantSize(t, filled(quoted(times(`"`, 256)), 514), n)
		wantSize(t, filled(call("g", num(1), num(2)), 7), n)
		wantSize(t, filled(neg(bin(api.OpAdd, num(1), num(2))), 8), n)
		wantSize(t, filled(at(not(num(1)), num(2)), 7), n)
	}
	for n := 1; n < 200; n++ { // the tabs count
		s := ret(num(1))
		for range n {
			s = when(num(1), s)
		}
		size := len("version 1;\nfn f(): int {\n}\n") + n + 1 + len("ret 1;\n")
		for i := range n {
			size += 2*(i+1) + len("if 1 {\n}\n")
		}
		wantSize(t, doing(s), size)
	}
}

// ErrForm goes ahead of ErrLong, wherever the fault is.
func TestFormAheadOfLong(t *testing.T) {
	p := sized(16385)
	wantError(t, "too long", p, api.ErrLong)
	last := &p.States[len(p.States)-1]
	each(&last.Name, func(what string) { wantError(t, what, p, api.ErrForm) }, "the last name", "if", "", "A")
	each(&last.Type, func(what string) { wantError(t, what, p, api.ErrForm) }, "the last type", "a", "", "[int")
	each(&p.States[0].Type, func(what string) { wantError(t, what, p, api.ErrForm) }, "the first type", "a")
	each(&p.Version, func(what string) { wantError(t, what, p, api.ErrForm) }, "the version", -1)
	p = sized(40000)
	p.Fns = append(everything(t).Fns, everything(t).Fns...)
	wantError(t, "far too long", p, api.ErrLong)
	refused := func(what string) { wantError(t, what, p, api.ErrForm) }
	visitor{
		slot: func(s *api.Slot) {},
		fn:   func(f *api.Fn) { each(&f.Result, refused, "far behind: a result", "") },
		stmt: func(s *api.Stmt) {
			each(&s.Kind, refused, "far behind: a statement's kind", 0, 7)
			each(&s.E, refused, "far behind: a statement's exprs", nil)
		},
		expr: func(x *api.Expr) { each(&x.Kind, refused, "far behind: an expr's kind", 0, 4, 16) },
	}.prog(&p)
	wantError(t, "far too long", p, api.ErrLong)
}

// As many parts within one another as the bound has room for: the text would have far more bytes than any memory.
func TestDepths(t *testing.T) {
	const most = 1<<16 - 10
	exprs := map[string]func(api.Expr) api.Expr{
		"neg":     neg,
		"call":    func(x api.Expr) api.Expr { return call("f", x) },
		"left":    func(x api.Expr) api.Expr { return bin(api.OpAdd, x, num(1)) },
		"right":   func(x api.Expr) api.Expr { return bin(api.OpAdd, num(1), x) },
		"ahead":   func(x api.Expr) api.Expr { return at(neg(x), num(1)) },
		"between": func(x api.Expr) api.Expr { return at(name("a"), x) },
	}
	for what, around := range exprs {
		for last, want := range map[int]api.Errno{1: api.ErrLong, -1: api.ErrForm} {
			x := num(last)
			for range most / 2 {
				x = around(x)
			}
			wantError(t, what, returning(x), want)
		}
	}
	for what, around := range map[string]func(api.Stmt) api.Stmt{
		"if":   func(s api.Stmt) api.Stmt { return when(num(1), s, ret(num(1))) },
		"else": func(s api.Stmt) api.Stmt { return orElse(when(num(1), ret(num(1))), s) },
		"for":  func(s api.Stmt) api.Stmt { return loop("i", num(1), s) },
	} {
		for last, want := range map[int]api.Errno{1: api.ErrLong, -1: api.ErrForm} {
			s := ret(num(last))
			for range most {
				s = around(s)
			}
			wantError(t, what, doing(s), want)
		}
	}
}

// P8.1: Type.

func TestTypes(t *testing.T) {
	if len(plainTypes) != 120 {
		t.Fatalf("%d types", len(plainTypes))
	}
	for _, s := range plainTypes {
		if !Type(s) {
			t.Errorf("%s is no type", s)
		}
		wantText(t, api.Prog{States: []api.Slot{{Name: "a", Type: s}}}, "version 0;\nstate a: "+s+";\n")
		wantText(t, api.Prog{Fns: []api.Fn{{Name: "a", Result: s, Params: []api.Slot{{Name: "a", Type: s}}}}}, "version 0;\nfn a(a: "+s+"): "+s+" {}\n")
	}
	deep := 0
	for _, s := range allTypes(5) {
		if !plainType(s) {
			deep++
			if Type(s) {
				t.Errorf("%s is a type", s)
			}
		}
	}
	if deep != 243 {
		t.Errorf("%d deep types", deep)
	}
	for _, s := range badTypes() {
		if Type(s) {
			t.Errorf("%s is a type", short(s))
		}
	}
	for _, s := range reservedList {
		if Type(s) != (s == "int" || s == "bool" || s == "text") {
			t.Errorf("%s", s)
		}
	}
}

// Each type with a byte more, less or another, anywhere.
func TestTypesChanged(t *testing.T) {
	known := map[string]int{}
	for _, s := range plainTypes {
		known[s] = 1
	}
	right := 0
	ask := func(s string) {
		right += known[s]
		if Type(s) != (known[s] == 1) {
			t.Errorf("%q: %t", s, Type(s))
		}
	}
	for _, s := range plainTypes {
		for i := range len(s) + 1 {
			ask(s[:i])
			ask(s[i:])
			for b := range 256 {
				ask(s[:i] + string([]byte{byte(b)}) + s[i:])
				if i < len(s) {
					ask(s[:i] + string([]byte{byte(b)}) + s[i+1:])
				}
			}
			for _, other := range []string{"int", "[", "]", "{int:", "{text:", "}", "[int]", "  ", "[]", "{}"} {
				ask(s[:i] + other + s[i:])
			}
			if i < len(s) {
				ask(s[:i] + s[i+1:])
			}
		}
	}
	if right < 240 {
		t.Errorf("%d were types", right)
	}
}
