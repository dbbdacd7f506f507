package parse

import (
	"reflect"
	"slices"
	"strconv"
	"strings"
	"testing"

	"quern/api"
)

func times(s string, n int) string { return strings.Repeat(s, n) }

// short is a text as it is told in a failure.
func short(s string) string {
	if len(s) > 400 {
		return strconv.Quote(s[:400]) + " and " + strconv.Itoa(len(s)-400) + " more"
	}
	return strconv.Quote(s)
}

// The four below hold programs against each other; an empty list and none are the same.

func sameExpr(a, b api.Expr) bool {
	lists := slices.EqualFunc(a.Args, b.Args, sameExpr)
	a.Args, b.Args = nil, nil
	return lists && reflect.DeepEqual(a, b)
}

func sameStmt(a, b api.Stmt) bool {
	lists := slices.EqualFunc(a.E, b.E, sameExpr) && slices.EqualFunc(a.Body, b.Body, sameStmt) && slices.EqualFunc(a.Else, b.Else, sameStmt)
	a.E, a.Body, a.Else, b.E, b.Body, b.Else = nil, nil, nil, nil, nil, nil
	return lists && reflect.DeepEqual(a, b)
}

func sameFn(a, b api.Fn) bool {
	lists := slices.Equal(a.Params, b.Params) && slices.Equal(a.Locals, b.Locals) && slices.EqualFunc(a.Body, b.Body, sameStmt)
	a.Params, a.Locals, a.Body, b.Params, b.Locals, b.Body = nil, nil, nil, nil, nil, nil
	return lists && reflect.DeepEqual(a, b)
}

func sameProg(a, b api.Prog) bool {
	lists := slices.Equal(a.States, b.States) && slices.EqualFunc(a.Fns, b.Fns, sameFn)
	a.States, a.Fns, b.States, b.Fns = nil, nil, nil, nil
	return lists && reflect.DeepEqual(a, b)
}

// The four below answer a program in memory of its own, each place as a function says.

func moveExprs(l []api.Expr, to func(int) int) []api.Expr {
	var out []api.Expr
	for _, x := range l {
		x.Args, x.At = moveExprs(x.Args, to), to(x.At)
		out = append(out, x)
	}
	return out
}

func moveStmts(l []api.Stmt, to func(int) int) []api.Stmt {
	var out []api.Stmt
	for _, s := range l {
		s.E, s.Body, s.Else, s.At = moveExprs(s.E, to), moveStmts(s.Body, to), moveStmts(s.Else, to), to(s.At)
		out = append(out, s)
	}
	return out
}

func moveSlots(l []api.Slot, to func(int) int) []api.Slot {
	var out []api.Slot
	for _, s := range l {
		s.At = to(s.At)
		out = append(out, s)
	}
	return out
}

func moveProg(p api.Prog, to func(int) int) api.Prog {
	out := api.Prog{Version: p.Version, States: moveSlots(p.States, to)}
	for _, f := range p.Fns {
		f.Params, f.Locals, f.Body, f.At = moveSlots(f.Params, to), slices.Clone(f.Locals), moveStmts(f.Body, to), to(f.At)
		out.Fns = append(out.Fns, f)
	}
	return out
}

func nowhere(int) int { return 0 }

// marked takes the ^ out of a text, and answers where it stood.
func marked(s string) (string, int) {
	at := strings.IndexByte(s, '^')
	return s[:at] + s[at+1:], at
}

// wantProg asks that a text is this program, with its places.
func wantProg(t *testing.T, s string, want api.Prog) {
	t.Helper()
	got, at, e := Parse(s)
	if e != api.OK || at != 0 || !sameProg(got, want) {
		t.Errorf("%s: %+v, %d, %d; not %+v", short(s), got, at, e, want)
	}
}

// wantFault asks that a text has this first fault.
func wantFault(t *testing.T, s string, at int, e api.Errno) {
	t.Helper()
	if p, a, err := Parse(s); !sameProg(p, api.Prog{}) || a != at || err != e {
		t.Errorf("%s: %+v, %d, %d; not %d, %d", short(s), p, a, err, at, e)
	}
}

// wantFine asks that a text is a program, and answers it.
func wantFine(t *testing.T, s string) api.Prog {
	t.Helper()
	p, at, e := Parse(s)
	if at != 0 || e != api.OK {
		t.Errorf("%s: %d, %d", short(s), at, e)
	}
	return p
}

// Exprs, each at its place.

func num(n, at int) api.Expr           { return api.Expr{Kind: 1, Num: n, At: at} }
func truth(n, at int) api.Expr         { return api.Expr{Kind: 2, Num: n, At: at} }
func quoted(s string, at int) api.Expr { return api.Expr{Kind: 3, Text: s, At: at} }
func name(s string, at int) api.Expr   { return api.Expr{Kind: 6, Text: s, At: at} }
func neg(at int, x api.Expr) api.Expr  { return api.Expr{Kind: 13, Args: []api.Expr{x}, At: at} }
func not(at int, x api.Expr) api.Expr  { return api.Expr{Kind: 14, Args: []api.Expr{x}, At: at} }

func call(s string, at int, args ...api.Expr) api.Expr {
	return api.Expr{Kind: 7, Text: s, Args: args, At: at}
}

func index(at int, x, place api.Expr) api.Expr {
	return api.Expr{Kind: 12, Args: []api.Expr{x, place}, At: at}
}

func bin(op, at int, x, y api.Expr) api.Expr {
	return api.Expr{Kind: 15, Op: op, Args: []api.Expr{x, y}, At: at}
}

const ahead = "version 1;fn f():int{" // what statements are tried behind: 21 bytes

// wantBlock asks that statements in a function's block are these; their places count from the first one's.
func wantBlock(t *testing.T, s string, want ...api.Stmt) {
	t.Helper()
	moved := moveStmts(want, func(at int) int { return at + len(ahead) })
	wantProg(t, ahead+s+"}", api.Prog{Version: 1, Fns: []api.Fn{{Name: "f", Result: "int", Body: moved, At: 13}}})
}

// wantExpr asks that a text is this expr; its places count from its first byte.
func wantExpr(t *testing.T, s string, want api.Expr) {
	t.Helper()
	inner := moveExprs([]api.Expr{want}, func(at int) int { return at + 4 })
	wantBlock(t, "ret "+s+";", api.Stmt{Kind: 6, E: inner})
	wantBlock(t, "ret\n"+s+";", api.Stmt{Kind: 6, E: inner})
}

// wantExprFault asks that an expr has this first fault; its place counts from its first byte.
func wantExprFault(t *testing.T, s string, at int, e api.Errno) {
	t.Helper()
	wantFault(t, ahead+"ret "+s+";}", len(ahead)+4+at, e)
}

// P7.1: programs that are right.

func TestExamples(t *testing.T) {
	wantProg(t, "version 1; on add(x:int):int{set n=n+x;ret n;}", api.Prog{Version: 1, Fns: []api.Fn{{
		Name: "add", On: true, Params: []api.Slot{{Name: "x", Type: "int", At: 18}}, Result: "int", At: 14,
		Body: []api.Stmt{
			{Kind: api.SSet, Name: "n", E: []api.Expr{bin(api.OpAdd, 36, name("n", 35), name("x", 37))}, At: 29},
			{Kind: api.SRet, E: []api.Expr{name("n", 43)}, At: 39},
		},
	}}})
	wantFault(t, "version 1; fn f():int{ret a<b<c;}", 29, api.ErrSyntax)
	wantFault(t, "version;", 7, api.ErrSyntax)
}

func TestOrdinary(t *testing.T) {
	s := `version 7; # the seventh
state n: {text: [int]};
on put(k: text, v: int): bool {
	if has(n, k) { set n[k] = push(n[k], v); } else { ret false; }
	ret true;
}
state last: int;
fn top(): int { for i to 3 { del n["x"]; } ret -last % 10; }
`
	at := func(what string, nth int) int {
		from := -1
		for range nth {
			from += 1 + strings.Index(s[from+1:], what)
		}
		return from
	}
	wantProg(t, s, api.Prog{
		Version: 7,
		States:  []api.Slot{{Name: "n", Type: "{text:[int]}", At: at("n: {", 1)}, {Name: "last", Type: "int", At: at("last: int", 1)}},
		Fns: []api.Fn{
			{
				Name: "put", On: true, Result: "bool", At: at("put(", 1),
				Params: []api.Slot{{Name: "k", Type: "text", At: at("k: text", 1)}, {Name: "v", Type: "int", At: at("v: int", 1)}},
				Body: []api.Stmt{
					{
						Kind: api.SIf, At: at("if", 1), E: []api.Expr{call("has", at("has", 1), name("n", at("n, k", 1)), name("k", at("k) {", 1)))},
						Body: []api.Stmt{{Kind: api.SSet, Name: "n", At: at("set", 1), E: []api.Expr{
							name("k", at("k] = ", 1)),
							call("push", at("push", 1), index(at("[k],", 1), name("n", at("n[k],", 1)), name("k", at("k],", 1))), name("v", at("v);", 1))),
						}}},
						Else: []api.Stmt{{Kind: api.SRet, E: []api.Expr{truth(0, at("false", 1))}, At: at("ret", 1)}},
					},
					{Kind: api.SRet, E: []api.Expr{truth(1, at("true", 1))}, At: at("ret", 2)},
				},
			},
			{
				Name: "top", Result: "int", At: at("top", 1),
				Body: []api.Stmt{
					{
						Kind: api.SFor, Name: "i", E: []api.Expr{num(3, at("3 {", 1))}, At: at("for", 1),
						Body: []api.Stmt{{Kind: api.SDel, Name: "n", E: []api.Expr{quoted("x", at(`"x"`, 1))}, At: at("del", 1)}},
					},
					{Kind: api.SRet, At: at("ret", 3), E: []api.Expr{
						bin(api.OpMod, at("%", 1), neg(at("-last", 1), name("last", at("last %", 1))), num(10, at("10", 1))),
					}},
				},
			},
		},
	})
}

func TestVersionAlone(t *testing.T) {
	wantProg(t, "version 0;", api.Prog{})
	wantProg(t, "version 1;", api.Prog{Version: 1})
	wantProg(t, "\n version\t12 ; # no more", api.Prog{Version: 12})
	wantProg(t, "version 9223372036854775807;", api.Prog{Version: 1<<63 - 1})
	wantProg(t, "version 1;"+times(" ", api.MaxSource-10), api.Prog{Version: 1})
}

func TestItems(t *testing.T) {
	wantProg(t, "version 1;state a:int;", api.Prog{Version: 1, States: []api.Slot{{Name: "a", Type: "int", At: 16}}})
	wantProg(t, "version 1;fn a():int{}", api.Prog{Version: 1, Fns: []api.Fn{{Name: "a", Result: "int", At: 13}}})
	wantProg(t, "version 1;on a():int{}", api.Prog{Version: 1, Fns: []api.Fn{{Name: "a", On: true, Result: "int", At: 13}}})
	wantProg(t, "version 1; on b(): text {} state z: bool; fn c(): int {} state a: text; on a(): [int] {}", api.Prog{
		Version: 1,
		States:  []api.Slot{{Name: "z", Type: "bool", At: 33}, {Name: "a", Type: "text", At: 63}},
		Fns:     []api.Fn{{Name: "b", On: true, Result: "text", At: 14}, {Name: "c", Result: "int", At: 45}, {Name: "a", On: true, Result: "[int]", At: 75}},
	})
}

func TestParams(t *testing.T) {
	for n := range 12 { // more than MaxParams plays no part here
		s := "version 1;on g("
		var want []api.Slot
		for i := range n {
			if i > 0 {
				s += ","
			}
			want = append(want, api.Slot{Name: "p" + strconv.Itoa(i), Type: []string{"int", "[bool]", "{text:int}"}[i%3], At: len(s)})
			s += want[i].Name + ":" + want[i].Type
		}
		wantProg(t, s+"):text{}", api.Prog{Version: 1, Fns: []api.Fn{{Name: "g", On: true, Params: want, Result: "text", At: 13}}})
	}
}

// Names that are there twice, or nowhere, and how many there are, play no part.
func TestNamesAndNumbersPlayNoPart(t *testing.T) {
	p := wantFine(t, "version 1;"+times("state a:int;", 50)+times("fn a(a:int,a:int):int{let a=b;set c[a]=d;del e[a];for a to a{let a=a;}ret g(h);}", 50))
	if len(p.States) != 50 || len(p.Fns) != 50 || len(p.Fns[49].Body) != 5 || len(p.Fns[49].Params) != 2 {
		t.Errorf("%d states, %d functions", len(p.States), len(p.Fns))
	}
	p = wantFine(t, ahead+times("let x = 1;", 200)+"}")
	if len(p.Fns) != 1 || len(p.Fns[0].Body) != 200 {
		t.Errorf("%d functions", len(p.Fns))
	}
}

// allTypes answers all types of at most this depth.
func allTypes(depth int) []string {
	out := []string{"int", "bool", "text"}
	if depth == 1 {
		return out
	}
	for _, inner := range allTypes(depth - 1) {
		out = append(out, "["+inner+"]", "{int:"+inner+"}", "{text:"+inner+"}")
	}
	return out
}

// spread puts blanks between all tokens of a type.
func spread(s string) string {
	return strings.NewReplacer("[", "[ ", "]", " ]", "{", "{\t", "}", "\n}", ":", " : ").Replace(s)
}

func TestTypes(t *testing.T) {
	all := allTypes(4)
	if len(all) != 120 {
		t.Fatalf("%d types", len(all))
	}
	for _, x := range all {
		wantProg(t, "version 1;state s:"+x+";", api.Prog{Version: 1, States: []api.Slot{{Name: "s", Type: x, At: 16}}})
		wantProg(t, "version 1;state s:"+spread(x)+" ;", api.Prog{Version: 1, States: []api.Slot{{Name: "s", Type: x, At: 16}}})
		s := "version 1;on g(p:" + x + "):" + x + "{}"
		wantProg(t, s, api.Prog{Version: 1, Fns: []api.Fn{{Name: "g", On: true, Params: []api.Slot{{Name: "p", Type: x, At: 15}}, Result: x, At: 13}}})
	}
}

func TestDeepTypes(t *testing.T) {
	deep := 0
	for _, x := range allTypes(5) {
		if strings.Count(x, "[")+strings.Count(x, "{") < 4 {
			continue
		}
		deep++
		at := strings.LastIndexAny(x, "[{:") + 1
		wantFault(t, "version 1;state s:"+x+";", 18+at, api.ErrDeep)
		wantFault(t, "version 1;on g(p:"+x+"):int{}", 17+at, api.ErrDeep)
		wantFault(t, "version 1;on g():"+x+"{}", 17+at, api.ErrDeep)
	}
	if deep != 243 {
		t.Errorf("%d deep types", deep)
	}
}

// wantTypeFault asks that a type has a fault where the ^ is, wherever a type stands.
func wantTypeFault(t *testing.T, s string, e api.Errno) {
	t.Helper()
	for _, front := range []string{"version 1;state s:", "version 1;fn g(a:int,b:", "version 1;on g():"} {
		text, at := marked(front + s)
		wantFault(t, text, at, e)
	}
}

func TestTypesAtFault(t *testing.T) {
	for _, s := range []string{
		"^", "^;", "^x", "^7", `^"int"`, "^true", "^set", "^(", "^]", "^}", "^if", "[^", "[^]", "[^x]", "[int^", "[int^}", "[int^,int]", "[int^[", "{^", "{^}", "{^bool:int}",
		"{^[int]:int}", "{^{int:int}:int}", "{^x:int}", `{^"text":int}`, "{int^", "{int^}", "{int^;", "{int ^int}", "{text:^", "{text:^}", "{text:^x}", "{text:^:}", "{text:int^", "{text:int^]", "{text:int^:int}",
		"[[[^", "[[[^]]]", "[[[^x", "[[[{^", "[[[{^bool:int}]]]", "[[[{^[int]:int}]]]", "[[[{int^", "[[[{int^}", "[[[int]]^}", "[[[int]]^",
	} {
		wantTypeFault(t, s, api.ErrSyntax)
	}
	for _, s := range []string{
		"[[[[^", "[[[[^[int]]]]]", "[[[[^]]]]", "[[[[^;", "[[[[^if", "[[[[^7", "[[[[^{", "[[[[^(", `[[[[^"int"`, "[[[{int:^", "[[[{int:^}", "[[[{text:^\"int\"", "{int:{int:{int:{int:^{int:int}}}}}",
		"{int:[{text:[^bool", "[[[[^[[[", "[[[[\n#\n^", "[ [ [ [ ^int ] ] ] ]",
	} {
		wantTypeFault(t, s, api.ErrDeep)
	}
}

func TestStatements(t *testing.T) {
	wantBlock(t, "")
	wantBlock(t, "let x=1;", api.Stmt{Kind: 1, Name: "x", E: []api.Expr{num(1, 6)}})
	wantBlock(t, "set x=1;", api.Stmt{Kind: 2, Name: "x", E: []api.Expr{num(1, 6)}})
	wantBlock(t, "set x[y]=1;", api.Stmt{Kind: 2, Name: "x", E: []api.Expr{name("y", 6), num(1, 9)}})
	wantBlock(t, "del x[1];", api.Stmt{Kind: 3, Name: "x", E: []api.Expr{num(1, 6)}})
	wantBlock(t, "if x{}", api.Stmt{Kind: 4, E: []api.Expr{name("x", 3)}})
	wantBlock(t, "if x{}else{}", api.Stmt{Kind: 4, E: []api.Expr{name("x", 3)}})
	wantBlock(t, "for x to 1{}", api.Stmt{Kind: 5, Name: "x", E: []api.Expr{num(1, 9)}})
	wantBlock(t, "ret 1;", api.Stmt{Kind: 6, E: []api.Expr{num(1, 4)}})
}

func TestBlocks(t *testing.T) {
	ret := func(n, at int) api.Stmt { return api.Stmt{Kind: 6, E: []api.Expr{num(n, at+4)}, At: at} }
	wantBlock(t, "ret 1;ret 2;\n ret 3;", ret(1, 0), ret(2, 6), ret(3, 14))
	wantBlock(t, "if x{ret 1;}", api.Stmt{Kind: 4, E: []api.Expr{name("x", 3)}, Body: []api.Stmt{ret(1, 5)}})
	wantBlock(t, "if x{ret 1;ret 2;}else{}", api.Stmt{Kind: 4, E: []api.Expr{name("x", 3)}, Body: []api.Stmt{ret(1, 5), ret(2, 11)}})
	wantBlock(t, "if x{}else{ret 1;ret 2;}", api.Stmt{Kind: 4, E: []api.Expr{name("x", 3)}, Else: []api.Stmt{ret(1, 11), ret(2, 17)}})
	wantBlock(t, "if x{ret 1;}else{ret 2;}ret 3;",
		api.Stmt{Kind: 4, E: []api.Expr{name("x", 3)}, Body: []api.Stmt{ret(1, 5)}, Else: []api.Stmt{ret(2, 17)}}, ret(3, 24))
	wantBlock(t, "for i to n{ret 1;ret 2;}ret 3;", api.Stmt{Kind: 5, Name: "i", E: []api.Expr{name("n", 9)}, Body: []api.Stmt{ret(1, 11), ret(2, 17)}}, ret(3, 24))
	wantBlock(t, "if x{if y{ret 1;}else{ret 2;}}", // the else is the inner one's
		api.Stmt{Kind: 4, E: []api.Expr{name("x", 3)}, Body: []api.Stmt{{Kind: 4, E: []api.Expr{name("y", 8)}, Body: []api.Stmt{ret(1, 10)}, Else: []api.Stmt{ret(2, 22)}, At: 5}}})
	wantBlock(t, "if x{if y{ret 1;}}else{for j to 2{ret 2;}}",
		api.Stmt{
			Kind: 4, E: []api.Expr{name("x", 3)}, Body: []api.Stmt{{Kind: 4, E: []api.Expr{name("y", 8)}, Body: []api.Stmt{ret(1, 10)}, At: 5}},
			Else: []api.Stmt{{Kind: 5, Name: "j", E: []api.Expr{num(2, 32)}, Body: []api.Stmt{ret(2, 34)}, At: 23}},
		})
}

func TestPrimaries(t *testing.T) {
	wantExpr(t, "0", num(0, 0))
	wantExpr(t, "9223372036854775807", num(1<<63-1, 0))
	wantExpr(t, `""`, quoted("", 0))
	wantExpr(t, `"a\"b\\"`, quoted(`a"b\`, 0))
	wantExpr(t, "true", truth(1, 0))
	wantExpr(t, "false", truth(0, 0))
	wantExpr(t, "x", name("x", 0))
	wantExpr(t, "_to", name("_to", 0))
	wantExpr(t, "abcdefghijklmn_0", name("abcdefghijklmn_0", 0))
	wantExpr(t, "f()", call("f", 0))
	wantExpr(t, "f( )", call("f", 0))
	wantExpr(t, "f(1)", call("f", 0, num(1, 2)))
	wantExpr(t, "f (x,y , g(),\"z\")", call("f", 0, name("x", 3), name("y", 5), call("g", 9), quoted("z", 13)))
	wantExpr(t, "f(a+b,(c))", call("f", 0, bin(9, 3, name("a", 2), name("b", 4)), name("c", 7)))
	args := make([]api.Expr, 40)
	for i := range args {
		args[i] = num(i%10, 2+2*i)
	}
	wantExpr(t, "f(0,1,2,3,4,5,6,7,8,9,0,1,2,3,4,5,6,7,8,9,0,1,2,3,4,5,6,7,8,9,0,1,2,3,4,5,6,7,8,9)", call("f", 0, args...))
	wantExpr(t, "(x)", name("x", 1))
	wantExpr(t, "( ((7)))", num(7, 4))
	wantExpr(t, "(f(1))", call("f", 1, num(1, 3)))
}

func TestPlacesInBrackets(t *testing.T) {
	wantExpr(t, "x[1]", index(1, name("x", 0), num(1, 2)))
	wantExpr(t, "x [y+1] [ z ]", index(8, index(2, name("x", 0), bin(9, 4, name("y", 3), num(1, 5))), name("z", 10)))
	wantExpr(t, "f(1)[2]", index(4, call("f", 0, num(1, 2)), num(2, 5)))
	wantExpr(t, "1[2]", index(1, num(1, 0), num(2, 2)))
	wantExpr(t, `"ab"["c"]`, index(4, quoted("ab", 0), quoted("c", 5)))
	wantExpr(t, "true[false]", index(4, truth(1, 0), truth(0, 5)))
	wantExpr(t, "(x)[1]", index(3, name("x", 1), num(1, 4)))
	wantExpr(t, "(x+y)[1]", index(5, bin(9, 2, name("x", 1), name("y", 3)), num(1, 6)))
	wantExpr(t, "(-x)[1]", index(4, neg(1, name("x", 2)), num(1, 5)))
	wantExpr(t, "x[y[z]]", index(1, name("x", 0), index(3, name("y", 2), name("z", 4))))
	wantExpr(t, "x[1][2][3]", index(7, index(4, index(1, name("x", 0), num(1, 2)), num(2, 5)), num(3, 8)))
}

func TestUnaryMarks(t *testing.T) {
	wantExpr(t, "-1", neg(0, num(1, 1)))
	wantExpr(t, "!x", not(0, name("x", 1)))
	wantExpr(t, "- - x", neg(0, neg(2, name("x", 4))))
	wantExpr(t, "!-!x", not(0, neg(1, not(2, name("x", 3)))))
	wantExpr(t, "-x[1]", neg(0, index(2, name("x", 1), num(1, 3))))
	wantExpr(t, "!f(1)[2]", not(0, index(5, call("f", 1, num(1, 3)), num(2, 6))))
	wantExpr(t, "-(x+y)", neg(0, bin(9, 3, name("x", 2), name("y", 4))))
	wantExpr(t, "x- -y", bin(10, 1, name("x", 0), neg(3, name("y", 4))))
	wantExpr(t, "x--y", bin(10, 1, name("x", 0), neg(2, name("y", 3))))
	wantExpr(t, "x&& !y", bin(2, 1, name("x", 0), not(4, name("y", 5))))
}

// operators answers all operators, in their order, and how much each binds.
func operators() ([]string, map[string]int) {
	all := strings.Fields("|| && == != < <= > >= + - * / %")
	binds := map[string]int{"||": 1, "&&": 2, "+": 4, "-": 4, "*": 5, "/": 5, "%": 5}
	for _, m := range all[2:8] {
		binds[m] = 3
	}
	return all, binds
}

func TestOperators(t *testing.T) {
	consts := []int{api.OpOr, api.OpAnd, api.OpEq, api.OpNe, api.OpLt, api.OpLe, api.OpGt, api.OpGe, api.OpAdd, api.OpSub, api.OpMul, api.OpDiv, api.OpMod}
	all, _ := operators()
	for i, m := range all {
		n := len(m)
		if consts[i] != i+1 {
			t.Errorf("%s is operator %d", m, consts[i])
		}
		wantExpr(t, "x"+m+"1", bin(i+1, 1, name("x", 0), num(1, 1+n)))
		wantExpr(t, "x "+m+" y", bin(i+1, 2, name("x", 0), name("y", 3+n)))
		wantExpr(t, "-x"+m+"!y", bin(i+1, 2, neg(0, name("x", 1)), not(2+n, name("y", 3+n)))) // unary marks bind more than any
		wantExpr(t, "(x)"+m+"(y)", bin(i+1, 3, name("x", 1), name("y", 4+n)))
		wantExpr(t, "x[1]"+m+"f(y)", bin(i+1, 4, index(1, name("x", 0), num(1, 2)), call("f", 4+n, name("y", 6+n))))
		wantExpr(t, "(x"+m+"y)", bin(i+1, 2, name("x", 1), name("y", 2+n)))
	}
}

func TestTwoOperators(t *testing.T) {
	all, binds := operators()
	for i, m := range all {
		for j, n := range all {
			a, b := len(m), len(m)+len(n)
			s := "x " + m + " y " + n + " z"
			switch {
			case binds[n] > binds[m]:
				wantExpr(t, s, bin(i+1, 2, name("x", 0), bin(j+1, 5+a, name("y", 3+a), name("z", 6+b))))
			case binds[m] == 3 && binds[n] == 3:
				wantExprFault(t, s, 5+a, api.ErrSyntax)
			default:
				wantExpr(t, s, bin(j+1, 5+a, bin(i+1, 2, name("x", 0), name("y", 3+a)), name("z", 6+b)))
			}
			wantExpr(t, "x "+m+" (y "+n+" z)", bin(i+1, 2, name("x", 0), bin(j+1, 6+a, name("y", 4+a), name("z", 7+b))))
			wantExpr(t, "(x "+m+" y) "+n+" z", bin(j+1, 7+a, bin(i+1, 3, name("x", 1), name("y", 4+a)), name("z", 8+b)))
		}
	}
}

func TestChains(t *testing.T) {
	all, _ := operators()
	for _, level := range []string{"||", "&&", "+ -", "* / %"} {
		marks := strings.Fields(level)
		for n := 1; n <= 40; n++ {
			s, want := "a", name("a", 0)
			for i := range n {
				m := marks[i%len(marks)]
				want = bin(slices.Index(all, m)+1, len(s), want, name("b", len(s)+len(m)))
				s += m + "b"
			}
			wantExpr(t, s, want)
		}
	}
}

func TestLevels(t *testing.T) {
	wantExpr(t, "a||b&&c==d+e*-f[g]", bin(1, 1, name("a", 0), bin(2, 4, name("b", 3), bin(3, 7, name("c", 6),
		bin(9, 10, name("d", 9), bin(11, 12, name("e", 11), neg(13, index(15, name("f", 14), name("g", 16)))))))))
	wantExpr(t, "a*b+c<d&&e||f", bin(1, 10, bin(2, 7, bin(5, 5, bin(9, 3, bin(11, 1, name("a", 0), name("b", 2)), name("c", 4)), name("d", 6)), name("e", 9)), name("f", 12)))
	wantExpr(t, "a<b&&c<d||e<f", bin(1, 8, bin(2, 3, bin(5, 1, name("a", 0), name("b", 2)), bin(5, 6, name("c", 5), name("d", 7))), bin(5, 11, name("e", 10), name("f", 12))))
	wantExpr(t, "a-b*c-d", bin(10, 5, bin(10, 1, name("a", 0), bin(11, 3, name("b", 2), name("c", 4))), name("d", 6)))
	wantExpr(t, "!a==b", bin(3, 2, not(0, name("a", 1)), name("b", 4)))
}

func TestComparingMarksBehindOneAnother(t *testing.T) {
	all, _ := operators()
	for _, m := range all[2:8] {
		for _, n := range all[2:8] {
			for _, s := range []string{
				"a " + m + " b ^" + n + " c", "a+1 " + m + " b*2 ^" + n + " c", "x||a " + m + " b ^" + n + " c", "a " + m + " b ^" + n + " c&&x", "(a " + m + " b ^" + n + " c)",
				"f(a " + m + " b ^" + n + " c)", "x[a " + m + " b ^" + n + " c]", "-a " + m + " -b ^" + n + " -c", "(x " + m + " y) " + m + " b ^" + n + " c", "a " + m + " b ^" + n,
			} {
				text, at := marked(s)
				wantExprFault(t, text, at, api.ErrSyntax)
			}
			for _, s := range []string{"(a " + m + " b) " + n + " c", "a " + m + " (b " + n + " c)", "a " + m + " b && c " + n + " d", "a " + m + " b || c " + n + " d", "a " + m + " f(b " + n + " c)", "a " + m + " x[b " + n + " c]"} {
				wantFine(t, ahead+"ret "+s+";}")
			}
		}
	}
}

// P7.1: reserved words.

func TestReserved(t *testing.T) {
	all := reservedList
	if len(all) != 17 {
		t.Fatalf("%d words", len(all))
	}
	for _, w := range all {
		if !Reserved(w) {
			t.Errorf("%s isn't reserved", w)
		}
		for _, s := range []string{w + "s", "_" + w, w + "_", w + "1", w + " ", " " + w, strings.ToUpper(w), strings.ToUpper(w[:1]) + w[1:], w[1:], w[:len(w)-1], w + w, `"` + w + `"`, w + "\x00"} {
			if Reserved(s) && !slices.Contains(all, s) {
				t.Errorf("%q is reserved", s)
			}
		}
	}
	for _, s := range []string{"", " ", "a", "x", "len", "has", "push", "str", "upgrade", "return", "while", "string", "float", "del_", "(", ";", "==", "1", "e", "o", "re", "tru", "\xff", times("version", 1000)} {
		if Reserved(s) {
			t.Errorf("%s is reserved", short(s))
		}
	}
}

// Each text has an N where a NAME must stand; in the second list's an expr can.
var (
	namePlaces = []string{
		"version 1;state N:int;", "version 1;state a:int;state N:int;", "version 1;fn N():int{}", "version 1;on N():int{}", "version 1;fn f(N:int):int{}", "version 1;fn f(a:int,N:int):int{}",
		ahead + "let N=1;}", ahead + "set N=1;}", ahead + "set N[1]=1;}", ahead + "del N[1];}", ahead + "for N to 1{}}",
	}
	exprPlaces = []string{
		ahead + "ret N;}", ahead + "ret N+2;}", ahead + "ret 1+N*2;}", ahead + "ret -N;}", ahead + "ret !N;}", ahead + "ret (N);}", ahead + "ret f(N);}", ahead + "ret f(1,N);}", ahead + "ret a[N];}", ahead + "ret N[1];}",
		ahead + "let a=N;}", ahead + "set a=N;}", ahead + "set a[N]=1;}", ahead + "set a[1]=N;}", ahead + "del a[N];}", ahead + "if N{}}", ahead + "for i to N{}}",
	}
)

func TestReservedAsName(t *testing.T) {
	for _, s := range slices.Concat(namePlaces, exprPlaces) {
		front, behind, _ := strings.Cut(s, "N")
		for _, w := range reservedList {
			if (w == "true" || w == "false") && slices.Contains(exprPlaces, s) {
				wantFine(t, front+w+behind)
				continue
			}
			wantFault(t, front+w+behind, len(front), api.ErrSyntax)
		}
		for _, w := range []string{"a", "_", "versions", "tos", "int_", "len", "abcdefghijklmn_0"} {
			wantFine(t, front+w+behind)
		}
		for _, w := range []string{";", "]", "}", "*", ".", ":", ",", "{", "<"} {
			wantFault(t, front+w+behind, len(front), api.ErrSyntax)
		}
	}
}

func TestReservedAsCall(t *testing.T) {
	for _, s := range exprPlaces {
		front, behind, _ := strings.Cut(s, "N")
		for _, w := range reservedList {
			if w == "true" || w == "false" {
				wantFault(t, front+w+"(1)"+behind, len(front+w), api.ErrSyntax)
				continue
			}
			wantFault(t, front+w+"(1)"+behind, len(front), api.ErrSyntax)
		}
		wantFine(t, front+"trues(1)"+behind)
	}
}

// P7.1: faults. In each row one stands where the ^ is: the token there can't stand; the end could in the first list's, and can't in the second's.

var itemFaults = []string{
	"version 1;^;", "version 1;^x", "version 1;^version 2;", "version 1;^let x=1;", "version 1;^}", "version 1;^1", "version 1;^{", "version 1;^if", `version 1;^"fn"`,
	"version 1;state a:int;^;", "version 1;state a:int;^a:int;", "version 1;fn f():int{}^;", "version 1;fn f():int{}^}", "version 1;on f():int{}^else{}", "version 1;fn f():int{}^(",
}

// Each row is a front, and what stands behind it, with two blanks between one and the next.
var faults = [][]string{
	{"", `^x  ^1  ^;  ^state  ^"version" 1;  ^versions 1;  version^;  version ^x;  version ^-1;  version ^"1";  version ^version 1;  version 1^,  version 1 ^1;`},
	{"", `version 1^:  version 1^";"  version 1 ^state`},
	{"version 1;", `state^;  state ^1  state ^state  state ^"a":int;  state a^;  state a^=  state a ^int  state a:^;  state a:^1;  state a:int^:  state a:int^,b:int;`},
	{"version 1;", `state a:int ^state b:int;  state a:int^=1;`},
	{"version 1;", `fn^(  fn ^1  fn ^on f  on ^fn f  fn f^{  fn f^:  fn f^[  fn f(^,  fn f(^1  fn f(^int  fn f(^(  fn f(a^)  fn f(a^,  fn f(a ^int  fn f(a:^)  fn f(a:^x`},
	{"version 1;", `fn f(a:int^;  fn f(a:int ^b  fn f(a:int^]  fn f(a:int,^)  fn f(a:int,^,  fn f(a:int,b^)  fn f(a:int,b:^)  fn f(a:int,b:int^:  fn f()^{  fn f()^;`},
	{"version 1;", `fn f()^)  fn f():^(  fn f():^1  fn f():^void  fn f():int^;  fn f():int^[  fn f():int ^ret 1;  fn f():int^}  fn f():int^(`},
	{ahead, `^;  ^x=1;  ^{}  ^1  ^)  ^fn  ^else{}  ^to  ^int  ^true;  ^"ret" 1;  ^"}"  ^version  ret 1;^;  ret 1;^x  ret 1;^else`},
	{ahead, `let^=  let ^1  let ^let  let x^;  let x^==1;  let x^[1]=1;  let x^:int=1;  let x ^1  let x=^;  let x= ^=  let x=^let  let x=1^,  let x=1^}`},
	{ahead, `let x=1 ^let  let x=1^=2;`},
	{ahead, `set^=  set ^1  set ^to  set x^;  set x^(  set x^+=1;  set x ^y  set x=^;  set x=1^]  set x=1 ^set  set x[^]  set x[^=  set x[1^;  set x[1^,2]=1;`},
	{ahead, `set x[1^)  set x[1]^;  set x[1]^[2]=1;  set x[1]^==  set x[1]=^;  set x[1]=2^,`},
	{ahead, `del^[  del ^1  del ^del  del x^;  del x^=  del x ^y  del x[^]  del x[^;  del x[1^;  del x[1^,  del x[1]^=1;  del x[1]^[2];  del x[1]^}  del x[1] ^ret`},
	{ahead, `if^{  if^;  if ^if  if x^;  if x^)  if x ^ret 1;  if x ^y  if x ^else{}  if x{^;  if x{^else  if x{}^;  if x{}else^;  if x{}else ^if y{}`},
	{ahead, `if x{}else ^ret 1;  if x{}else^}  if x{}else{^else{}  if x{}else{}^else{}  if x{}else{}^;  if x^=1{}`},
	{ahead, `for^{  for ^1  for ^to 1{}  for x^{  for x^=  for x ^y  for x ^tos 1{}  for x ^"to" 1{}  for x to^{  for x to ^to  for x to 1^;  for x to 1 ^ret`},
	{ahead, `for x to 1{^;  for x to 1{}^;  for x to 1{}^else{}`},
	{ahead, `ret^;  ret^}  ret ^ret 1;  ret 1^}  ret 1^,  ret 1^)  ret 1 ^ret  ret 1 ^2  ret 1 ^x  ret 1^=  ret 1^!  ret x ^y;  ret "a"^"b"  ret 1^:  ret 1^.`},
	{ahead, `ret 1^{  ret 1^";"`},
	{ahead, `ret 1||^;  ret 1||^||  ret 1&&^;  ret 1&&^*  ret 1==^;  ret 1==^==1  ret 1!=^;  ret 1<^;  ret 1<=^;  ret 1>^;  ret 1>=^;  ret 1> ^=  ret 1+^;`},
	{ahead, `ret 1+^+1;  ret 1-^;  ret 1*^;  ret 1/^;  ret 1%^;  ret 1%^%  ret ^*1  ret ^+1  ret ^&&  ret ^==  ret ^<  ret ^!=1  ret -^;  ret -^)  ret !^;  ret !^*`},
	{ahead, `ret - -^+1  ret 1*-^;  ret 1*-^/2  ret ^[  ret ^{  ret ^]  ret ^if  ret ^int  ret ^to  ret ^.  ret ^,  ret (^)  ret (^;  ret (1^;  ret (1^]`},
	{ahead, `ret (1^,2)  ret (1 ^2)  ret (1+^)  ret (1)^)  ret (1)^(  ret (f)^(1)  ret 1^(  ret "f"^(1)  ret true^(  ret false^(1)  ret f(^,  ret f(^;  ret f(^]`},
	{ahead, `ret f(1^;  ret f(1^]  ret f(1 ^2  ret f(1,^)  ret f(1,^,  ret f(1,2^;  ret f(1,2,^)  ret f(1)^(  ret f(1)^)  ret f()^()  ret f[1]^(  ret x[^]`},
	{ahead, `ret x[^;  ret x[1^;  ret x[1^)  ret x[1^,2]  ret x[1^:2]  ret x[1]^]  ret x[1] ^y  ret x[1][^]  ret x[1][2^;  ret x[1]^{`},
}

// faultRows answers all rows, each whole.
func faultRows() []string {
	var out []string
	for _, row := range faults {
		for _, r := range strings.Split(row[1], "  ") {
			out = append(out, row[0]+r)
		}
	}
	return out
}

func TestFaults(t *testing.T) {
	for _, row := range slices.Concat(itemFaults, faultRows()) {
		s, at := marked(row)
		for _, more := range []string{"", ";", "}", " x", "(", "# a note", "\n", "}}}}", " 0"} {
			wantFault(t, s+more, at, api.ErrSyntax)
		}
		for _, gap := range []string{"", " ", " # a note", "\n\n"} {
			if front := s[:at] + gap; slices.Contains(itemFaults, row) {
				wantFine(t, front)
			} else {
				wantFault(t, front, len(front), api.ErrSyntax)
			}
		}
	}
}

func TestNothing(t *testing.T) {
	for _, s := range []string{"", " ", "\n\t ", "#", "# version 1;", "# a\n"} {
		wantFault(t, s, len(s), api.ErrSyntax)
	}
}

// A text is none of the words and marks whose bytes it has, nor is it a name or a number.
func TestTextsAreNoWords(t *testing.T) {
	parts := strings.Fields(`version 1 ; state a : { text : int } ; on f ( b : [ bool ] , c : int ) : text { let d = 1 ; set d [ 0 ] = - 2 ; del e [ 3 ] ; if true { } else { } for g to h ( i , 4 ) { } ret j + 5 ; }`)
	whole := strings.Join(parts, " ")
	wantFine(t, whole)
	at := 0
	for i, p := range parts {
		other := slices.Clone(parts)
		other[i] = `"` + p + `"`
		s := strings.Join(other, " ")
		if strings.Contains(" 0 2 3 true i 4 j 5 ", " "+p+" ") || p == "1" && i > 5 {
			wantFine(t, s) // a text can stand there itself
		} else if p == "h" || p == "-" {
			wantFault(t, s, at+4, api.ErrSyntax) // the text can stand, but not what is behind it
		} else {
			wantFault(t, s, at, api.ErrSyntax)
		}
		at += len(p) + 1
	}
}

// P7.1: depth. Where something one deeper than what is around it begins there is a ^; what goes on inside stands at the @.

var (
	deepMarks  = strings.Fields("-^@ !^@ -^-^@ !^-^@") // behind these the unary alone goes on
	deepUnary  = strings.Fields("(^@) a[^@] f(^@) f(^1,@) f(^1,@,2) f(^f(),@) -^@ !^@ -^-^@ -^(^@) !^a[^@] -^f(^@) (^@)[1] (^@)*2 a[^1][@] -^a[^1][@] f(^a)[@] f(^@)[1] f(^@)+f(2) (^@)==(2)")
	deepExprs  = append(strings.Fields("1+(^@) a&&b||c<d*(^@) (^a)+(@) 2<!^(^@) f()-a[^@]"), deepUnary...)
	deepBlocks = []string{"if ^x{@}", "if ^x{@}ret 1;", "if ^x{}else{@}", "if ^x{@}else{}", "for i to ^3{@}", "for i to ^x{@}ret 1;"}
	deepStarts = []string{"ret ^@;", "let a=^@;", "set a=^@;", "set a[^@]=1;", "set a[^1]=@;", "del a[^@];", "if ^@{}", "if ^@{}else{}", "for i to ^@{}"}
	deepEnds   = []string{"1", "x", "true", `""`, "f()", "1+1", "a*b"}
)

// nest puts pieces within one another, the first one outermost, in a function's block; and answers the place of the first thing too deep, -1 if there is none.
func nest(pieces []string) (s string, at int) {
	front, behind, depth, at := ahead, "}", 1, -1
	for _, p := range pieces {
		open, shut, _ := strings.Cut(p, "@")
		for i, step := range strings.Split(open, "^") {
			if i > 0 {
				depth++
			}
			if i > 0 && depth == api.MaxDeep+1 {
				at = len(front)
			}
			front += step
		}
		behind = shut + behind
	}
	return front + behind, at
}

// wantNest asks that pieces within one another are a program, or too deep where the first thing is that is; and whether they are too deep.
func wantNest(t *testing.T, pieces []string, deep bool) {
	t.Helper()
	s, at := nest(pieces)
	if deep != (at >= 0) {
		t.Errorf("%s: the test's own place is %d", short(s), at)
	}
	if at < 0 {
		wantFine(t, s)
	} else {
		wantFault(t, s, at, api.ErrDeep)
	}
}

// layers answers so many blocks, a start, so many exprs and an end.
func layers(block string, blocks int, start, expr string, exprs int, end string) []string {
	out := append(slices.Repeat([]string{block}, blocks), start)
	return append(append(out, slices.Repeat([]string{expr}, exprs)...), end)
}

func TestDeepExprs(t *testing.T) {
	for _, x := range deepExprs {
		most := (24 - 2) / strings.Count(x, "^")
		for _, start := range deepStarts {
			for _, end := range deepEnds {
				for _, n := range []int{0, 1, 2, most - 1, most, most + 1, most + 2, 30} {
					wantNest(t, layers("", 0, start, x, n, end), n > most)
				}
			}
		}
	}
}

func TestDeepBlocks(t *testing.T) {
	for _, b := range deepBlocks {
		for n := range 30 {
			wantNest(t, slices.Repeat([]string{b}, n), n > 23)
			for _, start := range deepStarts {
				wantNest(t, layers(b, n, start, "", 0, "1"), n > 22)
			}
		}
	}
}

func TestDeepBoth(t *testing.T) {
	for _, b := range deepBlocks {
		for _, x := range deepExprs {
			for n := range 24 {
				most := (24 - 2 - n) / strings.Count(x, "^")
				if n > 22 {
					most = -1
				}
				for m := max(0, most-1); m < most+3; m++ {
					wantNest(t, layers(b, n, "ret ^@;", x, m, "x"), m > most)
				}
			}
		}
	}
}

// What stands beside one another doesn't add up.
func TestDepthIsNotHowMany(t *testing.T) {
	wantFine(t, ahead+times("if x{ret (1);}", 60)+"}")
	wantFine(t, ahead+"ret (1)"+times("+(1)", 60)+times("*-1", 60)+";}")
	wantFine(t, ahead+"ret a"+times("[1]", 60)+";}")
	wantFine(t, ahead+"ret f(((1))"+times(",((1))", 60)+");}")
	wantFine(t, ahead+"ret -1"+times("- -1", 60)+";}")
	wantFine(t, ahead+"ret "+times("(", 22)+"f()"+times("+f()", 60)+times(")", 22)+";}")
	wantFine(t, times("version 1;", 1)+times("fn f():int{ret ((1));}", 60))
	wantFine(t, "version 1;"+times("state a:[[[int]]];", 60)+"fn f("+times("a:[[[int]]],", 60)+"b:int):[[[int]]]{}")
}

// Whatever token stands where something too deep would begin, it is too deep.
func TestDeepAheadOfSyntax(t *testing.T) {
	every := []string{"", ";", "]", "}", ")", "*", "==", "=", ":", ",", ".", "{", "if", "ret", "int", "to", "1", "x", "(", "-", "!", `"a"`, "true"}
	brackets, blocks := ahead+"ret "+times("(", 22), ahead+times("if x{", 23)
	for _, front := range []string{
		brackets + "( ", brackets + "a[ ", brackets + "- ", brackets + "! ", brackets + "1*- ", brackets + "f()+( ", brackets + "f()[ ", brackets + "f()<f()*a[ ",
		blocks + "if ", blocks + "ret ", blocks + "let a= ", blocks + "set a= ", blocks + "set a[ ", blocks + "del a[ ", blocks + "for i to ", blocks + "}else{ if ",
	} {
		for _, w := range every {
			wantFault(t, front+w, len(front), api.ErrDeep)
		}
	}
	front := brackets + "f( "
	for _, w := range every {
		if w != ")" {
			wantFault(t, front+w, len(front), api.ErrDeep)
		}
	}
	wantFine(t, front+")"+times(")", 22)+";}") // no argument: nothing is one deeper
	wantFault(t, front+")", len(front)+1, api.ErrSyntax)
}

// Behind 22 brackets, and in the 24th block, nothing is too deep yet.
func TestSyntaxAheadOfDeep(t *testing.T) {
	for _, row := range []string{"^", "^;", "^)", "^*", "1^]", "1 ^1", "x ^x(1)", "x^}", "f()^(", "f()+^)", "f^;", "1^((", "^{", "^if", "f() ^f(1)"} {
		s, at := marked(ahead + "ret " + times("(", 22) + row)
		wantFault(t, s, at, api.ErrSyntax)
	}
	for _, row := range []string{
		"^", "^;", "^x", "^1", "let^", "let ^1", "let ^=", "let x^", "let x^;", "let x^[1]", "set^", "set ^1", "set x^", "set x^;", "set x^(", "del^", "del ^1", "del x^", "del x^;", "del x^=",
		"for^", "for ^1", "for x^", "for x^{", "for x ^x", "^else", "^{", "}else ^ret", "}else^", "}else{}^;",
	} {
		s, at := marked(ahead + times("if x{", 23) + row)
		wantFault(t, s, at, api.ErrSyntax)
	}
	deep := times("(", 30)
	wantFault(t, ahead+"ret x y"+deep, len(ahead)+6, api.ErrSyntax) // the one ahead counts
	wantFault(t, ahead+"ret x+"+deep+"] ] }", len(ahead)+6+23, api.ErrDeep)
	wantFault(t, "version 1;state s:[[[[[int;;"+ahead, 22, api.ErrDeep)
	wantFault(t, "version 1;state s:int,[[[[[int;;"+ahead, 21, api.ErrSyntax)
}

// P7.1: what layer 6 refuses, wherever it stands.

func TestLayerSix(t *testing.T) {
	long, deep := times("a", 17), times("(", 40)
	for _, c := range []struct {
		s string
		e api.Errno
	}{
		{"^@", api.ErrToken}, {"version 1; ^07", api.ErrToken}, {"x ^07", api.ErrToken}, {"version 1; state a int ^&", api.ErrToken}, {"; ; ^|", api.ErrToken}, {"version ^A;", api.ErrToken},
		{`version 1; ^"abc`, api.ErrToken}, {"x \"ab^\n\"", api.ErrToken}, {`version 1; fn f(): int { ret "a^\n"; }`, api.ErrToken}, {"version 1;^\r", api.ErrToken}, {"version 1;^\xff", api.ErrToken},
		{"version ^9223372036854775808;", api.ErrLong}, {"version x ^9223372036854775808", api.ErrLong}, {"version 1; state ^" + long + ": int;", api.ErrLong}, {"1 ^" + long, api.ErrLong},
		{ahead + `ret ^"` + times("x", 257) + `";}`, api.ErrLong}, {ahead + "ret " + deep + " ^$", api.ErrToken}, {"version 1;state s:[[[[[[ ^" + long, api.ErrLong},
		{times("(", 4096) + "^(", api.ErrMany}, {"version 1;" + times(";", 4093) + "^", api.ErrMany}, {"version 1;" + times("state a:int;", 818) + "x x x ^", api.ErrMany},
		{times(" ", api.MaxSource) + "^x", api.ErrLong}, {"version 1;" + times("\n", api.MaxSource-10) + "^ ", api.ErrLong}, {times("@", api.MaxSource) + "^@", api.ErrLong},
	} {
		s, at := marked(c.s)
		wantFault(t, s, at, c.e)
	}
	wantFault(t, "version 1;"+times("state a:int;", 818)+"x x", 10+818*12, api.ErrSyntax) // 4096 tokens
}

// The most that there can be of something.
func TestMost(t *testing.T) {
	chain := ahead + "ret -x" + times("+x", 2040) + ";}" // 4096 tokens
	want := neg(len(ahead)+4, name("x", len(ahead)+5))
	for i := range 2040 {
		want = bin(api.OpAdd, len(ahead)+6+2*i, want, name("x", len(ahead)+7+2*i))
	}
	wantProg(t, chain, api.Prog{Version: 1, Fns: []api.Fn{{Name: "f", Result: "int", At: 13, Body: []api.Stmt{{Kind: 6, E: []api.Expr{want}, At: len(ahead)}}}}})
	wantFault(t, chain+" ;", len(chain)+2, api.ErrMany)
	p := wantFine(t, ahead+"ret x"+times("[0]", 1350)+";}")
	x, n := p.Fns[0].Body[0].E[0], 0
	for ; x.Kind == api.EAt; x = x.Args[0] {
		n++
	}
	if n != 1350 || !sameExpr(x, name("x", 25)) {
		t.Errorf("%d brackets, %+v", n, x)
	}
	for _, s := range []string{times("(", 4095), "version 1;" + times("fn", 4000), ahead + times("-", 4000), ahead + "ret " + times("-", 4000), ahead + "ret " + times("f(", 2000), ahead + times("if x{", 1000), "version 1;state a:" + times("[", 4000), times("\xff", api.MaxSource), times("0", api.MaxSource)} {
		if _, at, e := Parse(s); e == api.OK || at > len(s) {
			t.Errorf("%s: %d, %d", short(s), at, e)
		}
	}
}
