package gen

import (
	"fmt"
	"slices"
	"strings"
	"testing"

	"quern/api"
	"quern/code"
	"quern/lex"
	"quern/opt"
	"quern/sem"
	"quern/types"
	"quern/vm"
)

// wantModule asks for P14.1, and answers the module.
func wantModule(t *testing.T, p api.Prog) api.Module {
	t.Helper()
	m, e := Generate(p)
	if e != api.OK || code.Verify(m, len(p.States)) != api.OK || len(m.Funcs) != len(p.Fns) {
		t.Fatalf("%d, %d functions of %d; Verify %d: %+v: %+v", e, len(m.Funcs), len(p.Fns), code.Verify(m, len(p.States)), p, m)
	}
	for i, f := range m.Funcs {
		if f.Params != len(p.Fns[i].Params) {
			t.Fatalf("function %d: %d params, not %d", i, f.Params, len(p.Fns[i].Params))
		}
	}
	return m
}

// wantSame asks for P14.2 with one fuel, by the machine itself, and answers what the run answers.
func wantSame(t *testing.T, p api.Prog, m api.Module, states []api.Value, c api.Command, fuel int) ([]api.Value, api.Outcome) {
	t.Helper()
	want, wantOut := sem.Call(p, states, c, fuel)
	out, o := vm.Run(m, states, sem.Handler(p, c), c.Args, fuel)
	if !allAlike(out, want) || o.Err != wantOut.Err || o.Fuel != wantOut.Fuel || !alike(o.Value, wantOut.Value) {
		t.Fatalf("%+v: %s(%s) of %s with %d: %s; not %s: %+v", p, c.Name, shownAll(c.Args), shownAll(states), fuel, told(out, o), told(want, wantOut), m)
	}
	return out, o
}

// wantAll asks for P14.2 with much fuel, just enough, one too few, none, and others; of the run with much it answers what that answers.
func wantAll(t *testing.T, p api.Prog, m api.Module, states []api.Value, c api.Command, others ...int) ([]api.Value, api.Outcome) {
	t.Helper()
	out, o := wantSame(t, p, m, states, c, 4096)
	spent := 4096 - o.Fuel
	for _, fuel := range append([]int{spent, spent - 1, spent + 1, spent / 2, 0, 1, -1, 5000, least, greatest}, others...) {
		wantSame(t, p, m, states, c, fuel)
	}
	return out, o
}

// wantCall asks what a handler h makes of a state; of the program and of what it becomes by Optimize.
func wantCall(t *testing.T, s string, states, args []api.Value, fuel int, want string) {
	t.Helper()
	for _, p := range both(t, s) {
		m, c := wantModule(t, p), api.Command{Name: "h", Args: args}
		out, o := wantSame(t, p, m, states, c, fuel)
		if got := told(out, o); got != want {
			t.Errorf("%s: %s of %s with %d: %s; not %s", s, c.Name, shownAll(args), fuel, got, want)
		}
		wantAll(t, p, m, states, c)
	}
}

// both answers a program, and what it becomes by Optimize.
func both(t *testing.T, s string) []api.Prog {
	t.Helper()
	p := loaded(t, s)
	return []api.Prog{p, opt.Optimize(p)}
}

func values(l ...api.Value) []api.Value { return l }

// The examples.

func TestExamples(t *testing.T) {
	p := loaded(t, "on f(): int { ret 7; }")
	m := wantModule(t, p)
	if len(m.Funcs) != 1 || m.Funcs[0].Params != 0 {
		t.Errorf("%+v", m)
	}
	if out, o := vm.Run(m, nil, 0, nil, 0); told(out, o) != " -> 7 / 0" {
		t.Errorf("%s", told(out, o))
	}
	add := "state n: int; on h(x: int): int { set n = n + x; for i to 3 { set n = n + 1; } ret n; }"
	wantCall(t, add, values(number(0)), values(number(5)), 10, "8 -> 8 / 7")
	wantCall(t, add, values(number(0)), values(number(5)), 2, "0 -> ErrFuel / 0")
	wantCall(t, add, values(number(1)), values(number(greatest)), 10, "1 -> ErrOver / 10")
	wantCall(t, add, values(number(0)), values(number(5)), 3, "8 -> 8 / 0")
	if m, e := Generate(api.Prog{}); e != api.OK || len(m.Consts)+len(m.Funcs) != 0 {
		t.Errorf("%+v, %d", m, e)
	}
	wantModule(t, loaded(t, "state a: int; state b: {int:[text]};"))
}

// Every kind of statement, expr and built-in call, by hand.

// head stands ahead of the bodies: states of many types, and functions that change them, so that the order of things can be seen.
const head = "state n: int; state b: bool; state s: text; state l: [int]; state m: {text:int}; state q: {int:[int]}; " +
	"fn f(x: int): int { set n = n * 10 % 1000000007 + x; ret x; } fn g(): bool { set n = n + 1; set b = !b; ret b; } fn w(x: text): text { set s = x; ret x; } " +
	"fn grow(): int { set l = push(l, 7); ret len(l) - 1; } fn note(x: text): text { set m[x] = len(m); ret x; } fn clear(x: text): text { del m[x]; ret x; } fn three(a: int, c: int, d: int): int { set n = n + 7; ret a * 100 + c * 10 + d; } " +
	"fn boom(x: int): int { set n = 77; for i to 3 { set n = n / (1 - i); } ret x; } fn turns(x: int): int { for i to 5 { set n = i; } ret x; } "

func handler(body string) string {
	return head + "on h(x: int, y: bool, z: text, k: [int], d: {text:int}): int { " + body + " }"
}

// someStates answers states for head, some of them full.
func someStates() [][]api.Value {
	full, wide := list(), table()
	for i := range 64 {
		full.List = append(full.List, number(i-9))
		wide.List = append(wide.List, word(string(rune('0'+i))), number(i))
	}
	deep := table(number(0), list(), number(2), list(number(5), number(6)))
	return [][]api.Value{
		{number(0), truth(false), word(""), list(), table(), table()},
		{number(4), truth(true), word("ab"), list(number(3), number(1)), table(word("a"), number(1), word("z"), number(-1)), deep},
		{number(greatest), truth(true), word(strings.Repeat("s", 200)), full, wide, table(number(0), full)},
		{number(least), truth(false), word(strings.Repeat("s", 256)), list(number(0)), table(word(""), number(0)), deep},
	}
}

func someArgs() [][]api.Value {
	return [][]api.Value{
		{number(0), truth(false), word(""), list(), table()},
		{number(2), truth(true), word("z"), list(number(2), number(0)), table(word("z"), number(9))},
		{number(-1), truth(true), word(strings.Repeat("q", 100)), list(number(1)), table(word("a"), number(1))},
		{number(greatest), truth(false), word("ab"), list(number(1), number(2), number(3)), table()},
	}
}

// wantBody asks for P14.1 and P14.2 of a body, with many states, arguments and fuels.
func wantBody(t *testing.T, body string) {
	t.Helper()
	for _, p := range both(t, handler(body)) {
		m := wantModule(t, p)
		for _, states := range someStates() {
			for _, args := range someArgs() {
				wantAll(t, p, m, states, api.Command{Name: "h", Args: args}, 2, 3, 4, 5, 6, 7, 8, 9, 10, 11, 12, 13, 14, 15)
			}
		}
	}
}

var bodies = strings.Split(`
ret 7;
ret 9223372036854775807;
ret -9223372036854775807 - 1;
let a = 1; ret a;
let a = x; set a = a + 1; ret a * 100 + x;
let a = "text"; set s = a; ret len(a);
let a = true; let c = false; set b = a != c;
let a = l; set a = push(a, 5); set l = a; ret len(l);
let a = q; set q[2] = l; ret len(a);
set n = x; set b = y; set s = z; set l = k; set m = d;
set x = 5; set y = false; set z = "no"; set k = push(k, x); set d["w"] = x; ret x + len(z) + len(k) + len(d);
set n = n; set s = s; set l = l; set m = m;
set l[0] = 5; ret l[0];
set l[len(l) - 1] = x; ret l[0];
set l[len(l)] = 1;
set l[-1] = 1;
set m[z] = x; set m["new"] = n; ret len(m);
set k[0] = 5; set k[1] = k[0]; ret k[0] * 10 + k[1];
set d[z] = x; set d[z + "2"] = d[z]; ret len(d);
set q[x] = l; set q[x + 1] = push(q[x], x); ret len(q);
set q[2] = push(q[2], 1); ret q[2][0];
set l[f(1)] = f(2);
set l[grow()] = 9; ret len(l);
set l[0] = grow(); ret l[0];
set l[grow() - 1] = grow();
set m[note("x")] = f(5); ret len(m);
set m[z] = len(note(z)); ret m[z];
set m[clear("a")] = len(clear("z")); ret len(m);
set k[f(0)] = f(3);
set d[note(z)] = len(clear(z));
del m["a"]; ret len(m);
del m[z]; del m[z]; ret len(m);
del m[note("x")]; ret len(m);
del m[clear("a") + "b"];
del d[z]; del d[note(z)]; ret len(d) * 100 + len(m);
del q[x]; del q[f(2)]; ret len(q);
if y { set n = 1; }
if y { set n = 1; } else { set n = 2; } ret n;
if y {} else { set n = 2; } ret n;
if y {} ret 5;
if g() {} ret 5;
if y { ret 1; } ret 2;
if y { ret 1; } else { ret 2; }
if y { ret 1; } else { set n = 3; }
if y { set n = 3; } else { ret 1; }
if x > 1 { if y { ret 1; } else { ret 2; } } else { if y { ret 3; } else {} set n = 8; } ret 4;
if x == 0 { set n = 1; } else { if x == 2 { set n = 2; } else { if x == -1 { set n = 3; } else { set n = 4; } } } ret n;
if true { ret 1; }
if false { ret 1; } else { ret 2; }
for i to 3 {}
for i to 3 { set n = i; } ret n;
for i to x { set n = n + i; } ret n;
for i to x {} ret 1;
for i to 0 { ret 1; } ret 2;
for i to -5 { ret 1; } ret 2;
for i to 1 { ret i; } ret 2;
for i to 9 { ret i; } ret 2;
for i to 9 { if i == 4 { ret i; } } ret 2;
for i to 9 { if i > 2 && y { ret i; } else { set n = n + 1; } } ret n;
for i to 4096 {} ret 1;
for i to 4097 {} ret 1;
for i to 1099511627776 {} ret 1;
for i to 1099511627777 {} ret 1;
for i to 9223372036854775807 {} ret 1;
for i to 9223372036854775807 { set n = i; } ret 1;
for i to len(l) { set l[i] = l[i] / 2; } ret len(l);
for i to len(l) { set l = push(l, i); } ret len(l);
for i to f(3) { set n = n % 10; } ret n;
for i to 2 { for j to 3 { set n = n % 1000 * 10 + i * 3 + j; } } ret n;
for i to 3 { for j to i { for o to j { set n = n % 1000 + 1; } } } ret n;
for i to 3 { let a = i * 2; for j to a { set n = j; } } ret n;
for i to 2 { set l[0] = i; for j to 2 { set m[z] = j; del m["a"]; } set l[0] = len(m); } ret l[0];
for i to 2 { let a = i; set a = a + 5; set n = a; } for i to 3 { set n = n + i; } ret n;
for i to 3 { for j to 3 { if i * 3 + j == 5 { ret i * 10 + j; } } } ret 99;
for i to 2 {} for i to 2 {} for i to 2 { for j to 2 {} }
for i to turns(2) { set n = turns(i); } ret n;
ret n; set n = 5;
set n = 5; ret n; set n = 6; for i to 3 { set n = 7; }
ret x; ret n;
ret f(x);
ret f(f(f(x)));
ret three(f(1), f(2), f(3));
ret three(three(f(1), f(2), f(3)), f(4), three(5, f(6), 7));
ret f(1) + f(2) * f(3) - f(4);
ret (f(1) + f(2)) * (f(3) - f(4));
ret n * 3 + f(1) + n;
ret len("") + len("abc") + len(s) + len(z) + len(l) + len(k) + len(m) + len(d) + len(q);
ret len(push(push(l, 1), 2));
ret push(push(l, f(4)), f(5))[len(l)];
ret len(str(x)) + len(str(-x)) + len(str(n));
ret l[0]; 
ret l[len(l) - 1] + k[len(k) - 1];
ret l[x];
ret m[z];
ret d[z] + m["a"];
ret q[2][1];
ret q[f(2)][f(1)];
ret l[grow()];
ret push(l, grow())[0];
ret m[note(z)];
ret -x;
ret --x;
ret -n;
ret -(x - 1) + -f(1);
set b = !y; if !!y { ret 1; } if !(x < 2) { ret 2; } ret 3;
set b = x == n; ret 1;
set b = x != n; ret 1;
set b = z == s; set b = b == y; set b = l == k; set b = m == d;
set b = z != s; set b = b != y; set b = l != k; set b = m != d; set b = q == q;
set b = x < 2; if z < s { ret 1; } ret 2;
set b = x <= 2; if z <= s { ret 1; } ret 2;
set b = x > 2; if z > s { ret 1; } ret 2;
set b = x >= 2; if z >= s { ret 1; } ret 2;
ret x + 1;
ret x - 1;
ret x * 3;
ret x / 2;
ret x % 2;
ret 7 / x;
ret 7 % x;
ret n / x;
set s = s + z; ret len(s);
set s = s + z + "tail" + str(x); ret len(s);
set b = y && b; ret 1;
set b = y || b; ret 1;
set b = y && g(); ret n;
set b = y || g(); ret n;
set b = g() && y; ret n;
set b = g() || y; ret n;
set b = g() && g() && g(); ret n;
set b = g() || g() || g(); ret n;
set b = g() && g() || g(); ret n;
set b = g() || g() && g(); ret n;
set b = (g() || g()) && g(); ret n;
set b = g() && (g() || g()); ret n;
set b = !(g() && !g()) || !g(); ret n;
set b = (y && g()) == (y || g()); ret n;
set b = (f(1) == 1 && f(2) == 2) == (f(3) == 3 || f(4) == 4); ret n;
if y && x / x == 1 { ret 1; } ret 2;
if y || x / x == 1 { ret 1; } ret 2;
if x != 0 && 10 / x > 1 || !y { ret 1; } ret 2;
if has(m, z) && m[z] == 1 || has(d, z) && d[z] > 0 { ret 1; } ret 2;
ret three(len(str(x)), len(w(z)), f(3));
if has(m, "a") { ret 1; } ret 2;
if has(m, note("o")) { ret 1; } ret 2;
if has(d, clear(z)) || has(m, clear(z)) { ret 1; } ret 2;
if has(q, x) { ret len(q[x]); } ret -1;
ret 1 + (2 + (3 + (4 + (5 + x))));
ret ((((1 + 2) + 3) + 4) + x);
ret three(1, 2, three(3, 4, three(5, 6, x + (7 + (8 + x)))));
ret boom(1);
set n = 5; ret boom(1);
ret turns(turns(turns(1)));
let a = 1; if y { let c = 2; set a = a + c; } else { let c = 3; let o = 4; set a = a + c * o; } let c = 5; ret a * 10 + c;`[1:], "\n")

func TestBodies(t *testing.T) {
	seen := map[string]int{}
	for _, body := range bodies {
		wantBody(t, body)
		for _, p := range both(t, handler(body)) {
			count(p, seen)
		}
	}
	for _, kind := range kinds() {
		if seen[kind] == 0 {
			t.Errorf("%s: none", kind)
		}
	}
}

// The answers by themselves, whatever layer 11 says.
func TestAnswers(t *testing.T) {
	bump := "state n: int; state l: [int]; state m: {int:int}; fn bump(): int { set n = n + 1; ret n; } fn grow(): int { set l = push(l, 9); ret len(l) - 1; } fn note(k: int): int { set m[k] = k * 10; ret k; } fn clear(k: int): int { del m[k]; ret k; } "
	for _, c := range []struct {
		head, body string
		fuel       int
		want       string
	}{
		{"int", "ret n * 100 + bump();", 9, "6, [1], {1, 1} -> 506 / 8"}, {"int", "ret bump() * 100 + n;", 9, "6, [1], {1, 1} -> 606 / 8"},
		{"int", "set l[grow()] = 7; ret len(l);", 9, "5, [1, 7], {1, 1} -> 2 / 8"}, {"int", "set l[0] = grow();", 9, "5, [1, 9], {1, 1} -> 0 / 8"}, {"int", "set l[5] = bump();", 9, "5, [1], {1, 1} -> ErrKey / 8"},
		{"int", "set m[note(2)] = note(3);", 9, "5, [1], {1, 1, 2, 3, 3, 30} -> 0 / 7"}, {"int", "set m[5] = clear(1);", 9, "5, [1], {5, 1} -> 0 / 8"}, {"int", "del m[note(2)];", 9, "5, [1], {1, 1} -> 0 / 8"}, {"int", "del m[1 + note(0)];", 9, "5, [1], {0, 0} -> 0 / 8"},
		{"int", "let a = l; set a[0] = grow(); ret a[0] * 10 + len(a);", 9, "5, [1, 9], {1, 1} -> 11 / 8"}, {"{int:int}", "let a = m; del a[note(1)]; ret a;", 9, "5, [1], {1, 10} -> {} / 8"},
		{"bool", "ret false && bump() == 1;", 9, "5, [1], {1, 1} -> false / 9"}, {"bool", "ret true && bump() == 1;", 9, "6, [1], {1, 1} -> false / 8"}, {"bool", "ret true || bump() == 1;", 9, "5, [1], {1, 1} -> true / 9"}, {"bool", "ret n == 4 || bump() == 6;", 9, "6, [1], {1, 1} -> true / 8"}, {"bool", "ret n == 5 && n == 4;", 9, "5, [1], {1, 1} -> false / 9"}, {"bool", "ret n == 5 && !(n == 4);", 9, "5, [1], {1, 1} -> true / 9"},
		{"int", "for i to 4 { set n = n * 10 + i; } ret n;", 4, "50123, [1], {1, 1} -> 50123 / 0"}, {"int", "for i to 4 { set n = n * 10 + i; } ret n;", 3, "5, [1], {1, 1} -> ErrFuel / 0"}, {"int", "for i to 4 { for j to i { set n = n + 1; } } ret n;", 11, "11, [1], {1, 1} -> 11 / 1"},
		{"int", "for i to 3 { if i == 1 { ret bump(); } }", 9, "6, [1], {1, 1} -> 6 / 6"}, {"int", "for i to bump() { set n = 0; } ret n;", 9, "0, [1], {1, 1} -> 0 / 2"}, {"int", "for i to 5 { set n = 10 / (3 - i); }", 9, "5, [1], {1, 1} -> ErrZero / 5"}, {"int", "for i to 3 {} ret l[7];", 9, "5, [1], {1, 1} -> ErrKey / 6"},
		{"int", "ret bump() + bump();", 1, "5, [1], {1, 1} -> ErrFuel / 0"}, {"int", "ret note(1 / 0);", 0, "5, [1], {1, 1} -> ErrZero / 0"}, {"int", "ret note(note(1) / 0);", 3, "5, [1], {1, 1} -> ErrZero / 2"},
		{"int", "for i to 9223372036854775807 {}", 4096, "5, [1], {1, 1} -> ErrFuel / 0"}, {"int", "for i to 4096 {} ret n;", 4096, "5, [1], {1, 1} -> 5 / 0"}, {"int", "for i to 4096 {} ret n;", 4095, "5, [1], {1, 1} -> ErrFuel / 0"},
		{"bool", "", 9, "5, [1], {1, 1} -> false / 9"}, {"text", "", 9, `5, [1], {1, 1} -> "" / 9`}, {"[int]", "set n = 1;", 9, "1, [1], {1, 1} -> [] / 9"}, {"{int:int}", "if n == 4 { ret m; }", 9, "5, [1], {1, 1} -> {} / 9"},
	} {
		wantCall(t, bump+"on h(): "+c.head+" { "+c.body+" }", values(number(5), list(number(1)), table(number(1), number(1))), nil, c.fuel, c.want)
	}
}

// A trap in every place where one may come.
func TestTrapsEverywhere(t *testing.T) {
	places := strings.Split(`
let a = #;
set n = #;
set x = #;
set l[#] = f(1);
set l[0] = #;
set l[f(0)] = #;
set k[#] = f(1);
set k[0] = #;
set d[z] = #;
set m[note("o")] = #;
set q[#] = push(l, 1);
set q[f(0)] = push(l, #);
del q[#];
del m[str(#)];
set n = 1; let a = #; set n = 2;
if # == 1 { set n = 1; } else { set n = 2; } ret n;
if y { set n = #; } else { set l[0] = #; } ret n;
if y && # == 1 { ret 1; } ret 2;
if y || # == 1 { ret 1; } ret 2;
if # == 1 && y { ret 1; } ret 2;
if # == 1 || y { ret 1; } ret 2;
if g() && (# == 1 || g()) { ret 1; } ret 2;
for i to # { set n = i; } ret n;
for i to 3 { set n = n % 100 + #; }
for i to 3 { if i == 1 { set n = #; } }
for i to 2 { for j to # % 3 { set n = j; } }
ret #;
ret f(#);
ret three(#, f(1), f(2));
ret three(f(1), #, f(2));
ret three(f(1), f(2), #);
ret -#;
ret # + f(1);
ret f(1) + #;
ret # - 1;
ret 2 * #;
ret # / 2;
ret 7 % #;
set b = # < f(1);
set b = f(1) >= #;
set b = # != #;
set b = !(# == 3);
set s = str(#);
set s = w("a") + str(#);
ret len(push(k, #));
ret k[#];
ret push(l, f(1))[#];
ret len(l) + l[#] + f(1);
if has(q, #) { ret 1; } ret 2;
ret m[str(#)];`[1:], "\n")
	traps := strings.Split(`f(1)|1 / 0|f(1) / (x - x)|7 % x|n + 1|n - 1|n * 2|-n|l[99]|l[x]|k[-1]|m["nope"]|d[z]|q[2][x]|len(push(l, 1))|len(s + z)|len(s + "ab")|boom(2)|turns(1)|f(1 / 0)|f(f(l[3]))|-(0 - 9223372036854775807 - 1)|9223372036854775807 + len(w(z))`, "|")
	seen := map[api.Errno]int{}
	for _, place := range places {
		for _, trap := range traps {
			for _, p := range both(t, handler(strings.ReplaceAll(place, "#", "("+trap+")"))) {
				m := wantModule(t, p)
				for i, states := range someStates() {
					for j := range 2 {
						_, o := wantAll(t, p, m, states, api.Command{Name: "h", Args: someArgs()[(i+j)%4]}, 2, 3, 5)
						seen[o.Err]++
					}
				}
			}
		}
	}
	for _, e := range []api.Errno{api.OK, api.ErrOver, api.ErrZero, api.ErrKey, api.ErrSize} {
		if seen[e] < 500 {
			t.Errorf("error %d: too few: %d", e, seen[e])
		}
	}
}

// How many parts a value may have, and what it may weigh, is looked at by push and set.
func TestTooMuch(t *testing.T) {
	long := func(n int) api.Value { return word(strings.Repeat("t", n)) }
	texts := func(n, bytes int) []api.Value { return slices.Repeat(values(long(bytes)), n) }
	heavy := append(texts(31, 256), texts(33, 254)...) // it weighs one less than it may
	for _, c := range []struct {
		body string
		l    []api.Value
		z    int
		want string
	}{
		{"set l = push(l, z); ret len(l);", texts(63, 1), 1, "64 / 9"},
		{"set l = push(l, z); ret len(l);", texts(64, 1), 1, "ErrSize / 9"},
		{"set l = push(l, z); ret len(l);", texts(63, 256), 191, "64 / 9"},
		{"set l = push(l, z); ret len(l);", texts(63, 256), 192, "ErrSize / 9"},
		{"set l[63] = z; ret len(l[63]);", heavy, 255, "255 / 9"},
		{"set l[63] = z; ret len(l[63]);", heavy, 256, "ErrSize / 9"},
		{"let a = l; set a[63] = z; ret len(a[63]) - len(l[63]);", heavy, 255, "1 / 9"},
		{"let a = l; set a[63] = z; ret len(a[63]) - len(l[63]);", heavy, 256, "ErrSize / 9"},
		{"set s = l[0] + z; ret len(s);", texts(1, 100), 156, "256 / 9"},
		{"set s = l[0] + z; ret len(s);", texts(1, 100), 157, "ErrSize / 9"},
		{"for i to 64 { set m[i] = z; } ret len(m);", nil, 1, "64 / -55"},
		{"for i to 65 { set m[i] = z; } ret len(m);", nil, 1, "ErrSize / -56"},
		{"for i to 65 { set m[i % 64] = z; } ret len(m);", nil, 1, "64 / -56"},
		{"for i to 64 { set m[i] = z; } ret len(m);", nil, 253, "64 / -55"},
		{"for i to 64 { set m[i] = z; } ret len(m);", nil, 254, "ErrSize / -55"},
	} {
		for _, p := range both(t, "state l: [text]; state s: text; state m: {int:text}; on h(z: text): int { "+c.body+" }") {
			_, o := wantAll(t, p, wantModule(t, p), values(list(c.l...), word(""), table()), api.Command{Name: "h", Args: values(long(c.z))})
			o.Fuel += 9 - 4096
			if got := told(nil, o); got != " -> "+c.want {
				t.Errorf("%s: %d: %s; not %s", c.body, c.z, got, c.want)
			}
		}
	}
}

// A function that ends without a ret answers the first value of its Result.
func TestNoRet(t *testing.T) {
	for of, want := range map[string]string{"int": "0", "bool": "false", "text": `""`, "[int]": "[]", "[[text]]": "[]", "{int:int}": "{}", "{text:{int:[bool]}}": "{}"} {
		for _, body := range []string{"", "set n = 1;", "if n == 5 { set n = 1; }", "if n == 4 { ret v; }", "for i to 0 { ret v; }", "for i to 2 { set n = 1; }", "if n == 4 { ret v; } else { set n = 1; }", "if n == 5 {} else { ret v; }", "if false { ret v; }"} {
			s := "state n: int; state v: " + of + "; fn f(): " + of + " { " + body + " } on h(): " + of + " { if f() == f() { set n = 9; } " + strings.ReplaceAll(body, "n == 5", "n == 9") + " }"
			for _, p := range both(t, s) {
				_, o := wantAll(t, p, wantModule(t, p), values(number(5), sem.Zero(p)[1]), api.Command{Name: "h"}, 2, 3, 4)
				if got := shown(o.Value); got != want {
					t.Errorf("%s: %s: %s; not %s", of, body, got, want)
				}
			}
		}
	}
	s := "fn f(): text {} fn g(): [int] {} on h(): int { ret len(f()) + len(g()); }"
	wantCall(t, s, nil, nil, 9, " -> 0 / 7")
}

// The limits that a text can come to.

// 32 functions of 8 params, each of which calls the one ahead.
func TestMostFunctions(t *testing.T) {
	var b strings.Builder
	for i := range 32 {
		word := "fn"
		if i == 31 {
			word = "on"
		}
		fmt.Fprintf(&b, "%s f%d(a: int, b: int, c: int, d: int, e: int, f: int, g: int, h: int): int { ", word, i)
		if i > 0 {
			fmt.Fprintf(&b, "ret f%d(b, c, d, e, f, g, h, a) * 2 %% 1000003; }\n", i-1)
		} else {
			b.WriteString("ret a + 2 * b + 3 * c + 4 * d + 5 * e + 6 * f + 7 * g + 8 * h; }\n")
		}
	}
	for _, p := range both(t, b.String()) {
		m := wantModule(t, p)
		if len(m.Funcs) != 32 || m.Funcs[31].Params != 8 {
			t.Errorf("%d functions", len(m.Funcs))
		}
		c := api.Command{Name: "f31", Args: values(number(3), number(1), number(4), number(1), number(5), number(9), number(2), number(6))}
		if _, o := wantAll(t, p, m, nil, c, 30, 31, 32); o.Err != api.OK || o.Fuel != 4096-31 {
			t.Errorf("%+v", o)
		}
	}
}

func TestMostStates(t *testing.T) {
	var b, sum strings.Builder
	var states []api.Value
	for i := range 32 {
		fmt.Fprintf(&b, "state s%d: int; ", i)
		fmt.Fprintf(&sum, " + s%d", i)
		states = append(states, number(i*i))
	}
	for _, p := range both(t, b.String()+"on h(): int { set s31 = 0"+sum.String()+"; set s0 = s31; ret s0; }") {
		out, o := wantAll(t, p, wantModule(t, p), states, api.Command{Name: "h"})
		if o.Value.Num != 31*32*63/6 || out[0].Num != o.Value.Num {
			t.Errorf("%+v", o)
		}
	}
}

// As many locals as there may be: params, lets and fors, and what fors within one another and changes hold beside.
func TestMostLocals(t *testing.T) {
	var lets, fors, deep, back strings.Builder
	for i := range 24 {
		fmt.Fprintf(&lets, "let v%d = a + %d; ", i, i)
		if i < 22 {
			fmt.Fprintf(&deep, "for v%d to 1 { ", i)
			back.WriteString(" }")
		}
	}
	for i := range 31 {
		fmt.Fprintf(&fors, "for i to %d { set n = n + i; set l[0] = n; } ", i%3)
	}
	head := "state n: int; state l: [int]; on h(a: int, b: int, c: int, d: int, e: int, f: int, g: int, k: int): int { "
	for _, s := range []string{
		head + lets.String() + "set n = v23 + v0; set l[0] = v22; set n = n + k; ret n; }",
		"state n: int; state l: [int]; on h(a: int): int { " + fors.String() + "ret n; }",
		"state n: int; state l: [int]; on h(a: int): int { set l[0] = a; " + deep.String() + "set l[0] = 5; set n = n + v21;" + back.String() + " let z = n; let y = l; set y[0] = z; ret y[0] + l[0]; }",
		"state n: int; state l: [int]; on h(a: int): int { set l[0] = a; " + deep.String() + "for z to 1 {} set n = n + 1;" + back.String() + " ret n; }",
	} {
		for _, p := range both(t, s) {
			m := wantModule(t, p)
			f := p.Fns[0]
			c := api.Command{Name: "h"}
			for range f.Params {
				c.Args = append(c.Args, number(7))
			}
			if _, o := wantAll(t, p, m, values(number(1), list(number(2))), c, 20, 21, 22, 23, 24, 30, 31); o.Err != api.OK {
				t.Errorf("%s: %+v", s, o)
			}
		}
	}
}

// As many constants as a text can have.
func TestMostConstants(t *testing.T) {
	var b strings.Builder
	b.WriteString("version 1; on h(): int { let t = len(\"\"); ret t")
	n := 2028
	for i := range n {
		fmt.Fprintf(&b, "+%d", i*3)
	}
	p := loaded(t, b.String()+"; }")
	m := wantModule(t, p)
	if len(m.Consts) < n || len(m.Consts) > n+3 {
		t.Errorf("%d constants", len(m.Consts))
	}
	if _, o := wantAll(t, p, m, nil, api.Command{Name: "h"}); o.Value.Num != 3*n*(n-1)/2 {
		t.Errorf("%+v", o)
	}
	wantModule(t, opt.Optimize(p))
	b.Reset()
	b.WriteString("version 1; state s: text; on h(): int { set s = \"\"; ")
	for i := range 800 {
		fmt.Fprintf(&b, "set s=\"%x\";", i)
	}
	p = loaded(t, b.String()+"}")
	if m = wantModule(t, p); len(m.Consts) < 800 {
		t.Errorf("%d constants", len(m.Consts))
	}
	if out, _ := wantAll(t, p, m, values(word("x")), api.Command{Name: "h"}); out[0].Text != "31f" {
		t.Errorf("%s", shownAll(out))
	}
}

// As much code as a text can have, of many kinds.
func TestMostCode(t *testing.T) {
	var fors strings.Builder
	for i := range 30 {
		fmt.Fprintf(&fors, "for v%d to 0{", i)
		if i%2 == 1 {
			fors.WriteString("}}")
		}
	}
	most := 0
	for _, c := range []struct{ ahead, part, behind string }{
		{"set b=b", "&&b", ";"}, {"set b=b", "||b", ";"}, {"set b=b", "||b&&b", ";"}, {"set n=n", "+n", ";"}, {"set n=n", "%9", ";"}, {"", "set m[n]=n;", ""}, {"", "del m[n];", ""}, {"", "if b{}", ""}, {"", "if b{}else{}", ""}, {"", "if b&&b{set m[n]=n;}", ""}, {"", "if b{ret n;}", ""}, {"set n=n", "+-n", ";"}, {"set b=b", "==!b&&b", ";"}, {"set n=n", "+m[n]", ";"}, {"", "ret n;", ""}, {"", "set n=n;", ""}, {"", "set n=f();", ""}, {"", "set n=g(n,n,n,n,n,n,n,n);", ""}, {"set n=n", "+g(n,n,n,n,n,n,n,n)", ";"}, {fors.String(), "set b=b&&b;", ""}, {fors.String(), "if b||b{}", ""},
	} {
		head := "version 1;state n:int;state b:bool;state m:{int:int};fn f():int{}fn g(a:int,c:int,d:int,e:int,i:int,j:int,k:int,l:int):int{ret l;}on h():int{" + c.ahead
		n := min((api.MaxTokens-tokens(t, head+c.behind+"}"))/(tokens(t, c.part)-1), (api.MaxSource-len(head+c.behind+"}"))/len(c.part))
		for _, p := range both(t, head+strings.Repeat(c.part, n)+c.behind+"}") {
			m := wantModule(t, p)
			most = max(most, len(m.Funcs[2].Code))
			for _, is := range []bool{true, false} {
				wantAll(t, p, m, values(number(1), truth(is), table(number(1), number(0))), api.Command{Name: "h"}, 100)
			}
		}
	}
	if most < 8000 {
		t.Errorf("no more than %d instructions", most)
	}
}

// The highest stack that a text can have: within one another calls of 8 arguments, the last of which has the operators that wait for their right sides.
func TestHighestStack(t *testing.T) {
	head := "state n: int; state b: bool; state m: {int:bool}; state l: [int]; fn f(a: int, c: int, d: int, e: int, g: int, i: int, j: int, k: bool): int { if k { ret 1; } ret (a + c + d + e + g + i + j) % 2; } on h(): int { "
	within := "n==n+n*n"
	for i := range 22 {
		within = fmt.Sprintf("n==n+n*f(n,%d,n,%d,n,%d,n,%s)", i, i*i%7, i%3, within)
	}
	for _, c := range []struct {
		body string
		high int
	}{{"set b=" + within + ";", 224}, {"set m[n]=" + within + ";", 225}, {"if " + within + " { set n = 5; }", 224}} {
		for _, p := range both(t, head+c.body+" ret n; }") {
			m := wantModule(t, p)
			if high := m.Funcs[1].Stack; high != c.high {
				t.Errorf("%s: %d, not %d", c.body, high, c.high)
			}
			for n := range 4 {
				wantAll(t, p, m, values(number(n), truth(true), table(), list()), api.Command{Name: "h"}, 10, 20, 21, 22, 23)
			}
		}
	}
	for _, c := range []struct {
		ahead, behind string
		times         int
	}{
		{"1+(", ")", 22}, {"- ", "", 22}, {"l[", "]", 22}, {"f(", ",1,2,3,4,5,6,b)", 22}, {"f(1,2,3,4,5,6,", ",b)", 22}, {"n*n+l[", "]", 22}, {"(", ")", 22}, {"len(push(l,", "))", 11}, {"len(str(", "))", 11},
	} {
		for _, p := range both(t, head+"ret "+strings.Repeat(c.ahead, c.times)+"1"+strings.Repeat(c.behind, c.times)+"; }") {
			m := wantModule(t, p)
			for n := range 3 {
				wantAll(t, p, m, values(number(n), truth(n == 1), table(), list(number(0), number(1))), api.Command{Name: "h"}, 21, 22)
			}
		}
	}
}

// Programs that no text is: Check takes them, but their code may be too much.

func name(s string) api.Expr { return api.Expr{Kind: api.EName, Text: s} }

func plus(a, b api.Expr) api.Expr {
	return api.Expr{Kind: api.EBin, Op: api.OpAdd, Args: []api.Expr{a, b}}
}

func set(x api.Expr) api.Stmt { return api.Stmt{Kind: api.SSet, Name: "n", E: []api.Expr{x}} }

// built answers a checked program of handlers with these bodies.
func built(t *testing.T, bodies ...[]api.Stmt) api.Prog {
	t.Helper()
	p := api.Prog{Version: 1, States: []api.Slot{{Name: "n", Type: "int"}}}
	for i, body := range bodies {
		p.Fns = append(p.Fns, api.Fn{Name: fmt.Sprint("h", i), On: true, Result: "int", Body: body})
	}
	p, at, e := types.Check(p)
	if e != api.OK {
		t.Fatal(at, e)
	}
	return p
}

// wantMany asks that a program's code is too much, or that it isn't; and, if not, that it does what it should.
func wantMany(t *testing.T, what string, many bool, p api.Prog) {
	t.Helper()
	for _, p := range []api.Prog{p, opt.Optimize(p)} {
		if many {
			if m, e := Generate(p); e != api.ErrMany || len(m.Consts)+len(m.Funcs) != 0 {
				t.Errorf("%s: %d, %d constants, %d functions", what, e, len(m.Consts), len(m.Funcs))
			}
			continue
		}
		m := wantModule(t, p)
		for _, f := range p.Fns {
			wantAll(t, p, m, values(number(1)), api.Command{Name: f.Name})
		}
	}
}

func TestTooMany(t *testing.T) {
	// Two instructions a statement, and two at the end.
	for _, n := range []int{8190, 8191, 8192, 8193, 20000} {
		wantMany(t, fmt.Sprint(n, " statements"), n > 8191, built(t, nil, slices.Repeat([]api.Stmt{set(name("n"))}, n), nil))
	}
	for _, n := range []int{255, 256, 257, 258, 5000} {
		x := name("n")
		for range n - 1 {
			x = plus(name("n"), x)
		}
		wantMany(t, fmt.Sprint("a stack of ", n), n > 256, built(t, nil, []api.Stmt{set(x)}))
		x = name("n")
		for range n - 1 {
			x = plus(x, name("n"))
		}
		wantMany(t, fmt.Sprint(n, " from the left"), false, built(t, nil, []api.Stmt{set(x)}))
	}
	for _, n := range []int{16383, 16384, 16385, 16386, 40000} {
		bodies := make([][]api.Stmt, 8)
		for i := range n { // 0 is there as what the handlers answer
			bodies[i%8] = append(bodies[i%8], set(api.Expr{Kind: api.EInt, Num: i}))
		}
		wantMany(t, fmt.Sprint(n, " constants"), n > 16384, built(t, bodies...))
	}
	same := slices.Repeat([][]api.Stmt{slices.Repeat([]api.Stmt{set(api.Expr{Kind: api.EInt, Num: 5})}, 8000)}, 32)
	wantMany(t, "one constant in all places", false, built(t, same...))
}

// tokens answers how many a text has, its end counted.
func tokens(t *testing.T, s string) int {
	t.Helper()
	l, at, e := lex.Lex(s)
	if e != api.OK {
		t.Fatal(s, at, e)
	}
	return len(l)
}
