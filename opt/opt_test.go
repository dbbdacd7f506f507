package opt

import (
	"fmt"
	"math"
	"reflect"
	"strings"
	"testing"

	"quern/api"
	"quern/parse"
	"quern/types"
)

// P12.1: what is said of all calls, by hand.

const least, greatest = math.MinInt, math.MaxInt

// head stands ahead of what the tables have: states and locals of all kinds, functions to call.
const head = "version 1; " + someStates + "fn f(x: int): int { ret x; } fn g(): bool { ret b; } fn w(): text { ret s; } "

func loaded(t *testing.T, s string) api.Prog {
	t.Helper()
	p, at, e := parse.Parse(s)
	if e == api.OK {
		p, at, e = types.Check(p)
	}
	if e != api.OK {
		t.Fatalf("%s: %d, %d: it isn't right", s, at, e)
	}
	return p
}

// body answers checked statements of a handler with the locals x, y, z, k and q.
func body(t *testing.T, s string) []api.Stmt {
	t.Helper()
	return loaded(t, head+"on h(x: int, y: bool, z: text, k: [int], q: {text:int}): int { "+s+" }").Fns[3].Body
}

// expr answers a checked expr.
func expr(t *testing.T, s string) api.Expr {
	t.Helper()
	return body(t, "let e = "+s+";")[0].E[0]
}

// shown is an expr as the tables have it: brackets around all that has two sides, or stands behind a - or !, so that -(1) isn't the constant -1.
func shown(x api.Expr) string {
	var a []string
	for _, arg := range x.Args {
		a = append(a, shown(arg))
	}
	all := "(" + strings.Join(a, ", ") + ")"
	switch x.Kind {
	case api.EInt:
		return fmt.Sprint(x.Num)
	case api.EBool:
		return fmt.Sprint(x.Num == 1)
	case api.EText:
		if len(x.Text) > 20 {
			return fmt.Sprintf("%.2q.. %d", x.Text, len(x.Text))
		}
		return fmt.Sprintf("%q", x.Text)
	case api.ELocal:
		return named("x y z k q", x.Slot)
	case api.EState:
		return named("n b s l m", x.Slot)
	case api.ECall:
		return named("f g w", x.Slot) + all
	case api.ELen, api.EHas, api.EPush, api.EStr:
		return strings.Fields("len has push str")[x.Kind-api.ELen] + all
	case api.EAt:
		return a[0] + "[" + a[1] + "]"
	case api.ENeg:
		return "-" + all
	case api.ENot:
		return "!" + all
	}
	return "(" + a[0] + " " + marks[x.Op-1] + " " + a[1] + ")"
}

func named(names string, n int) string {
	if l := strings.Fields(names); n < len(l) {
		return l[n]
	}
	return fmt.Sprint("v", n)
}

// told is statements as the tables have them.
func told(l []api.Stmt) string {
	var out []string
	for _, s := range l {
		out = append(out, toldOne(s))
	}
	return strings.Join(out, " ")
}

func toldOne(s api.Stmt) string {
	var e []string
	for _, x := range s.E {
		e = append(e, shown(x))
	}
	name := named("x y z k q", s.Slot)
	if s.State {
		name = named("n b s l m", s.Slot)
	}
	switch s.Kind {
	case api.SLet:
		return "let " + name + " = " + e[0] + ";"
	case api.SSet:
		if len(e) == 2 {
			name += "[" + e[0] + "]"
		}
		return "set " + name + " = " + e[len(e)-1] + ";"
	case api.SDel:
		return "del " + name + "[" + e[0] + "];"
	case api.SIf:
		out := "if " + e[0] + " {" + told(s.Body) + "}"
		if len(s.Else) > 0 {
			out += " else {" + told(s.Else) + "}"
		}
		return out
	case api.SFor:
		return "for " + name + " to " + e[0] + " {" + told(s.Body) + "}"
	case api.SRet:
		return "ret " + e[0] + ";"
	}
	return fmt.Sprintf("charge %d;", s.Num)
}

// places are statements that have an expr of a type in all the places in which one may stand; what they become, if it is no constant.
var places = map[string][]string{
	"int":        {"set n = E;", "let v5 = E;", "set l[E] = E;", "set k[E] = E;", "for v5 to E {set n = v5;}", "ret E;", "set n = f(E);", "set l = push(l, E);", "set n = l[E];"},
	"bool":       {"set b = E;", "let v5 = E;", "if E {set n = 1;}", "if E {set n = 1;} else {ret 2;}"},
	"text":       {"set s = E;", "let v5 = E;", "set m[E] = 1;", "del m[E];", "del q[E];", "set n = m[E];", "set b = has(m, E);"},
	"[int]":      {"set l = E;", "let v5 = E;", "set n = len(E);", "set n = E[0];"},
	"{text:int}": {"set m = E;", "let v5 = E;", "set n = len(E);", "set n = E[\"\"];"},
}

// wantExpr asks what an expr becomes, by itself and wherever it may stand.
func wantExpr(t *testing.T, s, want string) {
	t.Helper()
	x := expr(t, s)
	y := Fold(x)
	if got := shown(y); got != want {
		t.Fatalf("%s: %s; not %s", s, got, want)
	}
	if model := plainFold(newRand(1), x); !reflect.DeepEqual(copyExpr(y), copyExpr(model)) {
		t.Fatalf("%s: %+v; not %+v", s, y, model)
	}
	if y.Type != x.Type {
		t.Fatalf("%s: %s has the type %s", s, want, y.Type)
	}
	if again := Fold(y); !reflect.DeepEqual(copyExpr(again), copyExpr(y)) {
		t.Fatalf("%s: %s; then %s", s, want, shown(again))
	}
	for _, place := range places[x.Type] {
		if strings.HasPrefix(place, "if") && y.Kind == api.EBool || strings.HasPrefix(place, "for") && y.Kind == api.EInt && y.Num <= 0 {
			continue
		}
		wantBlock(t, strings.ReplaceAll(place, "E", s), strings.ReplaceAll(place, "E", want))
	}
}

// wantBlock asks what statements become, by themselves and as a function's body.
func wantBlock(t *testing.T, s, want string) {
	t.Helper()
	l := body(t, s)
	wantStmts(t, l, want)
	p := loaded(t, head+"on h(x: int, y: bool, z: text, k: [int], q: {text:int}): int { "+s+" }")
	if got := told(Optimize(p).Fns[3].Body); got != want {
		t.Fatalf("%s: as a body %s; not %s", s, got, want)
	}
}

// wantStmts asks what statements become that may be of no text.
func wantStmts(t *testing.T, l []api.Stmt, want string) {
	t.Helper()
	out := Block(l)
	if got := told(out); got != want {
		t.Fatalf("%s: %s; not %s", told(l), got, want)
	}
	if model := plainBlock(newRand(2), l, map[string]int{}); !reflect.DeepEqual(copyStmts(out), copyStmts(model)) {
		t.Fatalf("%s: %+v; not %+v", told(l), out, model)
	}
	if again := Block(out); !reflect.DeepEqual(copyStmts(again), copyStmts(out)) {
		t.Fatalf("%s: %s; then %s", told(l), want, told(again))
	}
}

// rows go through lines with an arrow: what is handed in, what it becomes; without one: it stays.
func rows(t *testing.T, want func(*testing.T, string, string), text string) {
	t.Helper()
	for line := range strings.Lines(text) {
		if line = strings.TrimSpace(line); line == "" {
			continue
		}
		from, to, ok := strings.Cut(line, "=>")
		if !ok {
			to = from
		}
		want(t, strings.TrimSpace(from), strings.TrimSpace(to))
	}
}

func TestExamples(t *testing.T) {
	rows(t, wantExpr, `
		2 * 3 + n => (6 + n)
		1 / 0 => (1 / 0)
		true && b => b`)
	rows(t, wantBlock, `
		if 1 < 2 { set n = 1; } => set n = 1;
		for i to 5 {} => charge 5;`)
}

// && and ||: the first that decides or doesn't, the second that decides or doesn't, sides that trap and take fuel.
func TestTruths(t *testing.T) {
	rows(t, wantExpr, `
		true && true => true
		true && false => false
		false && true => false
		false && false => false
		true || true => true
		true || false => true
		false || true => true
		false || false => false

		true && b => b
		false && b => false
		true || b => true
		false || b => b
		b && true => b
		b || false => b
		b && false => (b && false)
		b || true => (b || true)
		b && y => (b && y)
		b || y => (b || y)
		b && b => (b && b)

		true && g() => g()
		false && g() => false
		true || g() => true
		false || g() => g()
		g() && true => g()
		g() || false => g()
		g() && false => (g() && false)
		g() || true => (g() || true)

		true && 1 / 0 == 1 => ((1 / 0) == 1)
		false && 1 / 0 == 1 => false
		true || 1 / 0 == 1 => true
		false || 1 / 0 == 1 => ((1 / 0) == 1)
		1 / 0 == 1 && true => ((1 / 0) == 1)
		1 / 0 == 1 || false => ((1 / 0) == 1)
		1 / 0 == 1 && false => (((1 / 0) == 1) && false)
		1 / 0 == 1 || true => (((1 / 0) == 1) || true)
		n / x == 1 && false => (((n / x) == 1) && false)
		l[0] == 1 || true => ((l[0] == 1) || true)

		1 < 2 && b => b
		1 > 2 && b => false
		1 < 2 || b => true
		1 > 2 || b => b
		b && 1 < 2 => b
		b && 1 > 2 => (b && false)
		b || 1 < 2 => (b || true)
		b || 1 > 2 => b
		!false && !true => false
		"a" < "b" && y => y

		b && true && y => (b && y)
		b && (true && y) => (b && y)
		true && b && true => b
		b && false && true => (b && false)
		b && false && y => ((b && false) && y)
		b && (false && y) => (b && false)
		b || (true && false) || y => (b || y)
		b && y || false => (b && y)
		(b || true) && true => (b || true)
		(b && false) || (false || y) => ((b && false) || y)
		false || b && true || false => b
		g() && (true || g()) => g()
		g() || (false && g()) => g()
		!(true && b) => !(b)
		(true && b) == y => (b == y)
		(true && b) == true => (b == true)
		b == true => (b == true)
		true == b => (true == b)`)
}

func TestOperators(t *testing.T) {
	rows(t, wantExpr, `
		1 == 1 => true
		1 == 2 => false
		1 != 1 => false
		1 != 2 => true
		1 < 2 => true
		2 < 2 => false
		2 <= 2 => true
		3 <= 2 => false
		3 > 2 => true
		2 > 2 => false
		2 >= 2 => true
		1 >= 2 => false
		1 + 2 => 3
		1 - 2 => -1
		3 * 4 => 12
		7 / 2 => 3
		7 % 4 => 3

		"a" == "a" => true
		"a" == "b" => false
		"a" != "a" => false
		"a" != "b" => true
		"a" < "b" => true
		"b" < "ab" => false
		"a" <= "a" => true
		"b" <= "a" => false
		"b" > "a" => true
		"a" > "a" => false
		"a" >= "a" => true
		"" >= "a" => false
		"a" + "b" => "ab"
		"" + "" => ""

		true == true => true
		true == false => false
		false != false => false
		false != true => true

		-7 / 2 => -3
		7 / -2 => -3
		-7 % 4 => -3
		7 % -4 => 3
		-1 < 0 => true
		0 > -1 => true
		0 - 3 == -3 => true

		n == 1 => (n == 1)
		1 == n => (1 == n)
		n != n => (n != n)
		n < 1 => (n < 1)
		1 <= x => (1 <= x)
		x > 1 => (x > 1)
		1 >= n => (1 >= n)
		n + 1 => (n + 1)
		1 + n => (1 + n)
		n - 1 => (n - 1)
		n - n => (n - n)
		1 * n => (1 * n)
		0 * n => (0 * n)
		n * 0 => (n * 0)
		0 / n => (0 / n)
		n % 1 => (n % 1)
		n + 0 => (n + 0)
		s + "" => (s + "")
		"" + z => ("" + z)
		z == "a" => (z == "a")
		"a" < z => ("a" < z)
		y != true => (y != true)
		l == k => (l == k)
		m != q => (m != q)
		f(1) == 1 => (f(1) == 1)`)
}

// What traps stays, and so does what leans on it.
func TestTraps(t *testing.T) {
	rows(t, wantExpr, `
		1 / 0 => (1 / 0)
		1 % 0 => (1 % 0)
		0 / 0 => (0 / 0)
		0 % 0 => (0 % 0)
		1 / (1 - 1) => (1 / 0)
		9223372036854775807 + 1 => (9223372036854775807 + 1)
		9223372036854775806 + 1 => 9223372036854775807
		9223372036854775807 + 0 => 9223372036854775807
		9223372036854775807 - -1 => (9223372036854775807 - -1)
		-9223372036854775807 - 1 => -9223372036854775808
		-9223372036854775807 - 2 => (-9223372036854775807 - 2)
		-9223372036854775807 + -2 => (-9223372036854775807 + -2)
		-9223372036854775807 - 1 - 1 => (-9223372036854775808 - 1)
		0 - (-9223372036854775807 - 1) => (0 - -9223372036854775808)
		-1 - (-9223372036854775807 - 1) => 9223372036854775807
		9223372036854775807 * 1 => 9223372036854775807
		9223372036854775807 * 2 => (9223372036854775807 * 2)
		4611686018427387904 * 2 => (4611686018427387904 * 2)
		4611686018427387904 * -2 => -9223372036854775808
		3037000499 * 3037000499 => 9223372030926249001
		3037000500 * 3037000500 => (3037000500 * 3037000500)
		(-9223372036854775807 - 1) * -1 => (-9223372036854775808 * -1)
		-1 * (-9223372036854775807 - 1) => (-1 * -9223372036854775808)
		(-9223372036854775807 - 1) / -1 => (-9223372036854775808 / -1)
		(-9223372036854775807 - 1) % -1 => 0
		(-9223372036854775807 - 1) / 1 => -9223372036854775808
		-(-9223372036854775807 - 1) => -(-9223372036854775808)
		-9223372036854775807 => -9223372036854775807
		str(-9223372036854775807 - 1) => "-9223372036854775808"
		len(str(-9223372036854775807 - 1)) => 20

		1 / 0 + 2 => ((1 / 0) + 2)
		2 + 3 + 1 / 0 => (5 + (1 / 0))
		-(1 / 0) => -((1 / 0))
		str(1 / 0) => str((1 / 0))
		!(1 / 0 == 1) => !(((1 / 0) == 1))
		1 / 0 == 1 / 0 => ((1 / 0) == (1 / 0))
		f(1 / 0) => f((1 / 0))`)
	a, b := strings.Repeat("a", 128), strings.Repeat("b", 129)
	quoted := func(s string) string { return `"` + s + `"` }
	wantExpr(t, quoted(a)+" + "+quoted(b[1:]), `"aa".. 256`)
	wantExpr(t, "len("+quoted(a)+" + "+quoted(b[1:])+")", "256")
	wantExpr(t, "len("+quoted(a)+" + "+quoted(b)+")", `len(("aa".. 128 + "bb".. 129))`)
	wantExpr(t, quoted(a)+" + "+quoted(b), `("aa".. 128 + "bb".. 129)`)
	wantExpr(t, quoted(a+a)+` + ""`, `"aa".. 256`)
	wantExpr(t, `"" + `+quoted(a+a), `"aa".. 256`)
	wantExpr(t, quoted(a+a)+` + "c"`, `("aa".. 256 + "c")`)
	wantExpr(t, `"c" + `+quoted(a+a), `("c" + "aa".. 256)`)
	wantExpr(t, quoted(a+a)+` + "c" == ""`, `(("aa".. 256 + "c") == "")`)
	wantExpr(t, quoted(a+a)+" < "+quoted(a+a[1:]+"b"), "true")
}

func TestUnary(t *testing.T) {
	rows(t, wantExpr, `
		-5 => -5
		-0 => 0
		--5 => 5
		---5 => -5
		-n => -(n)
		--n => -(-(n))
		-f(1) => -(f(1))
		-len("ab") => -2
		!true => false
		!false => true
		!!true => true
		!b => !(b)
		!!b => !(!(b))
		!g() => !(g())
		!(n < 1) => !((n < 1))
		str(0) => "0"
		str(-5) => "-5"
		str(9223372036854775807) => "9223372036854775807"
		str(n) => str(n)
		str(n + 0) => str((n + 0))
		str(len("abc")) => "3"
		len("") => 0
		len("abc") => 3
		len("\"\\") => 2
		len(s) => len(s)
		len(s + "") => len((s + ""))
		len(l) => len(l)
		len(q) => len(q)
		len(push(l, 1 + 2)) => len(push(l, 3))`)
}

// Exprs of which nothing is said stay, with what their Args become.
func TestOthersStay(t *testing.T) {
	rows(t, wantExpr, `
		5 => 5
		true => true
		false => false
		"ab" => "ab"
		n => n
		x => x
		b => b
		z => z
		l => l
		q => q
		f(1) => f(1)
		f(1 + 2 * 3) => f(7)
		f(f(2 - 3)) => f(f(-1))
		g() => g()
		has(m, "a") => has(m, "a")
		has(m, "a" + str(1)) => has(m, "a1")
		push(l, 1 + 1) => push(l, 2)
		push(push(k, -1), 4 / 2) => push(push(k, -1), 2)
		l[0] => l[0]
		l[3 - 1] => l[2]
		l[-1] => l[-1]
		m["a" + "b"] => m["ab"]
		push(l, 1)[0 * 1] => push(l, 1)[0]
		l[k[2 - 1] + (3 - 1)] => l[(k[1] + 2)]
		1 + 2 + n => (3 + n)
		n + 1 + 2 => ((n + 1) + 2)
		n + (1 + 2) => (n + 3)
		(1 + 2) * (n - (3 - 4)) => (3 * (n - -1))
		f(1) + f(1) => (f(1) + f(1))
		len("a" + s + "b") => len((("a" + s) + "b"))
		str(1 + 2) + str(n) => ("3" + str(n))
		(1 < 2) == b => (true == b)`)
}

// A constant has Kind, Num or Text, and Type, and nothing else.
func TestConstants(t *testing.T) {
	for s, want := range map[string]api.Expr{
		"2 * 3":        {Kind: api.EInt, Num: 6, Type: "int"},
		"2 - 3":        {Kind: api.EInt, Num: -1, Type: "int"},
		"1 - 1":        {Kind: api.EInt, Type: "int"},
		"-4":           {Kind: api.EInt, Num: -4, Type: "int"},
		`len("abc")`:   {Kind: api.EInt, Num: 3, Type: "int"},
		"1 < 2":        {Kind: api.EBool, Num: 1, Type: "bool"},
		"2 < 1":        {Kind: api.EBool, Type: "bool"},
		`"a" == "b"`:   {Kind: api.EBool, Type: "bool"},
		"true != true": {Kind: api.EBool, Type: "bool"},
		"!false":       {Kind: api.EBool, Num: 1, Type: "bool"},
		"!true":        {Kind: api.EBool, Type: "bool"},
		"true && true": {Kind: api.EBool, Num: 1, Type: "bool"},
		"false || 2<1": {Kind: api.EBool, Type: "bool"},
		`"a" + "b"`:    {Kind: api.EText, Text: "ab", Type: "text"},
		`"" + ""`:      {Kind: api.EText, Type: "text"},
		"str(12)":      {Kind: api.EText, Text: "12", Type: "text"},
	} {
		if got := copyExpr(Fold(expr(t, s))); !reflect.DeepEqual(got, want) {
			t.Errorf("%s: %+v; not %+v", s, got, want)
		}
	}
	// What stays keeps all that it has.
	kept := api.Expr{Kind: api.EBin, Op: api.OpDiv, Num: 3, Text: "t", Slot: 4, Type: "int", At: 9, Args: []api.Expr{{Kind: api.EInt, Num: 1, Type: "int", At: 8}, {Kind: api.EInt, Type: "int", Slot: 7, At: 10}}}
	if got := Fold(kept); !reflect.DeepEqual(got, kept) {
		t.Errorf("%+v; not %+v", got, kept)
	}
}

func TestIfs(t *testing.T) {
	rows(t, wantBlock, `
		if true { set n = 1; } => set n = 1;
		if false { set n = 1; } =>
		if true { set n = 1; } else { set n = 2; } => set n = 1;
		if false { set n = 1; } else { set n = 2; } => set n = 2;
		if true {} else { set n = 2; } =>
		if false {} else { set n = 2; } => set n = 2;
		if true { set n = 1; } else {} => set n = 1;
		if false { set n = 1; } else {} =>
		if true {} =>
		if false {} else {} =>
		if 1 < 2 && !false { set n = 1; set n = 2; } set n = 3; => set n = 1; set n = 2; set n = 3;
		set n = 0; if 1 > 2 { set n = 1; } else { set n = 2; set n = 3; } set n = 4; => set n = 0; set n = 2; set n = 3; set n = 4;
		if true || g() { set n = 1; } => set n = 1;
		if g() || true { set n = 1; } => if (g() || true) {set n = 1;}
		if 1 / 0 == 1 { set n = 1; } => if ((1 / 0) == 1) {set n = 1;}
		if b { set n = 1 + 1; } => if b {set n = 2;}
		if b { set n = 1 + 1; } else { set n = 2 + 2; } => if b {set n = 2;} else {set n = 4;}
		if b {} else { set n = 2; } => if b {} else {set n = 2;}
		if b { if true { set n = 1; } } => if b {set n = 1;}
		if true { if true { if true { set n = 1; } set n = 2; } set n = 3; } => set n = 1; set n = 2; set n = 3;
		if true { if false { set n = 1; } else { if b { set n = 2; } } } => if b {set n = 2;}
		if true { let a = 1; let c = a; } let d = 2; set n = d; => let v5 = 1; let v6 = v5; let v7 = 2; set n = v7;
		if true { for i to n { set n = i; } } => for v5 to n {set n = v5;}
		if b { if false { set n = 1; } } =>
		if b { if y {} } =>
		if b { for i to 0 { set n = 1; } } else { if true {} } =>
		if b { if g() {} } => if b {if g() {}}
		if b { for i to 1 {} } => if b {charge 1;}
		if g() { if y {} } else { if b {} } => if g() {}`)
}

// An if without statements is left out just if its expr is quiet.
func TestEmptyIfs(t *testing.T) {
	rows(t, func(t *testing.T, s, quiet string) {
		t.Helper()
		x := expr(t, s)
		if Quiet(x) != (quiet == "quiet") {
			t.Errorf("%s: not %s", s, quiet)
		}
		if Quiet(x) != plainQuiet(x) {
			t.Errorf("%s: the plain model says otherwise", s)
		}
		if x.Type != "bool" {
			return
		}
		want := ""
		if y := Fold(x); quiet != "quiet" && y.Kind != api.EBool {
			want = "if " + shown(y) + " {}"
		}
		for _, form := range []string{"if E {}", "if E {} else {}", "if E { if false { ret 1; } } else { for i to 0 { ret 2; } }"} {
			wantBlock(t, strings.ReplaceAll(form, "E", s), want)
		}
		if want != "" {
			want = " " + want
		}
		wantBlock(t, "set n = 1; if "+s+" {} set n = 2;", "set n = 1;"+want+" set n = 2;")
		wantBlock(t, "if b { if "+s+" {} set n = 2; }", strings.Replace("if b {"+want+" set n = 2;}", "{ ", "{", 1))
	}, `
		1 => quiet
		true => quiet
		"a" => quiet
		b => quiet
		y => quiet
		l => quiet
		q => quiet
		len(s) => quiet
		len(l) => quiet
		len(m) => quiet
		has(m, s) => quiet
		has(q, "a") => quiet
		str(n) => quiet
		!b => quiet
		!!y => quiet

		b || y => quiet
		b && y => quiet
		n == 1 => quiet
		l == k => quiet
		n != x => quiet
		n < 1 => quiet
		s <= z => quiet
		n > 1 => quiet
		s >= "a" => quiet
		n + 1 => loud
		n - 1 => loud
		n * 1 => loud
		n / 1 => loud
		n % 1 => loud
		s + z => loud
		1 + 2 => loud

		g() => loud
		f(1) => loud
		push(l, 1) => loud
		l[0] => loud
		m["a"] => loud
		-n => loud
		-1 => loud

		g() || b => loud
		b && g() => loud
		n + 1 == 2 => loud
		2 != n - 1 => loud
		n * 2 < 5 => loud
		5 <= n / 2 => loud
		n % 2 > 0 => loud
		1 >= -n => loud
		s + "a" == z => loud
		f(n) == 1 => loud
		push(l, 1) == k => loud
		l[0] != 1 => loud
		m[s] < 1 => loud
		!g() => loud
		!(n + 1 == 2) => loud
		has(m, s + "a") => loud
		has(m, w()) => loud
		has(m, str(n)) => quiet
		has(m, str(-n)) => loud
		len(push(l, 1)) > 1 => loud
		len(s + z) > 1 => loud
		len(str(n)) > 1 => quiet
		len(str(len(l))) > len(z) || !(n == x) && has(q, str(len(m))) => quiet
		len(str(len(l))) > len(z) || !(n == x) && has(q, str(len(m) + 1)) => loud
		1 / 0 == 1 => loud
		b && 1 / 0 == 1 => loud`)
	// What folds to something quiet is so.
	rows(t, wantBlock, `
		if n == 1 + 2 {} =>
		if n == -3 {} =>
		if has(m, "a" + "b") {} =>
		if b && (true || g()) {} =>
		if n == -x {} => if (n == -(x)) {}`)
}

func TestFors(t *testing.T) {
	rows(t, wantBlock, `
		for i to 0 {} =>
		for i to -1 {} =>
		for i to -9223372036854775807 - 1 {} =>
		for i to 1 - 1 {} =>
		for i to 0 { set n = i; } =>
		for i to -1 { set n = i; } =>
		for i to 2 - 5 { ret i; } =>
		for i to 0 { set n = 1 / 0; } =>
		for i to 1 {} => charge 1;
		for i to 5 {} => charge 5;
		for i to 2 * 3 {} => charge 6;
		for i to len("abc") {} => charge 3;
		for i to 4097 {} => charge 4097;
		for i to 9223372036854775807 {} => charge 9223372036854775807;
		for i to 1 { set n = i; } => for v5 to 1 {set n = v5;}
		for i to 2 + 3 { set n = i + (1 + 1); } => for v5 to 5 {set n = (v5 + 2);}
		for i to 3 { ret i; } => for v5 to 3 {ret v5;}
		for i to 3 { if false { ret i; } } => charge 3;
		for i to 3 { if b {} } => charge 3;
		for i to 3 { if g() {} } => for v5 to 3 {if g() {}}
		for i to 3 { for j to 0 { ret 1; } } => charge 3;
		for i to 3 { for j to 2 {} } => for v5 to 3 {charge 2;}
		for i to 3 { for j to 2 { for o to 4 {} } } => for v5 to 3 {for v6 to 2 {charge 4;}}
		for i to 1 / 0 {} => for v5 to (1 / 0) {}
		for i to n {} => for v5 to n {}
		for i to x { set n = i; } => for v5 to x {set n = v5;}
		for i to n * 0 {} => for v5 to (n * 0) {}
		for i to f(3) {} => for v5 to f(3) {}
		for i to -x {} => for v5 to -(x) {}
		for i to len(l) { if false { ret 1; } } => for v5 to len(l) {}
		for i to 5 {} for j to 6 {} => charge 5; charge 6;
		set n = 1; for i to 2 {} set n = 3; => set n = 1; charge 2; set n = 3;`)
}

// Charges come from layer 12 alone, and may be anywhere in what it is handed.
func TestCharges(t *testing.T) {
	charge := func(n int) api.Stmt { return api.Stmt{Kind: api.SCharge, Num: n} }
	one, in := body(t, "set n = 1;")[0], func(s string, l ...api.Stmt) api.Stmt {
		out := body(t, s)[0]
		out.Body = l
		return out
	}
	for _, c := range []struct {
		l    []api.Stmt
		want string
	}{
		{[]api.Stmt{charge(0)}, ""}, {[]api.Stmt{charge(-1)}, ""}, {[]api.Stmt{charge(least)}, ""}, {[]api.Stmt{charge(1)}, "charge 1;"}, {[]api.Stmt{charge(5000)}, "charge 5000;"}, {[]api.Stmt{charge(greatest)}, fmt.Sprintf("charge %d;", greatest)},
		{[]api.Stmt{one, charge(0), one}, "set n = 1; set n = 1;"}, {[]api.Stmt{charge(2), charge(0), charge(3)}, "charge 2; charge 3;"}, {[]api.Stmt{charge(-1), one, charge(1)}, "set n = 1; charge 1;"},
		{[]api.Stmt{in("for i to 3 {}", charge(0))}, "charge 3;"}, {[]api.Stmt{in("for i to 3 {}", charge(2))}, "for v5 to 3 {charge 2;}"}, {[]api.Stmt{in("for i to 0 {}", charge(2))}, ""},
		{[]api.Stmt{in("if b {}", charge(-7))}, ""}, {[]api.Stmt{in("if b {}", charge(7))}, "if b {charge 7;}"}, {[]api.Stmt{in("if true {}", charge(7), charge(0)), one}, "charge 7; set n = 1;"}, {[]api.Stmt{in("if g() {}", charge(0))}, "if g() {}"},
		{append(body(t, "ret 1;"), charge(5)), "ret 1;"}, {append([]api.Stmt{charge(5)}, body(t, "ret 1;")...), "charge 5; ret 1;"},
	} {
		wantStmts(t, c.l, c.want)
	}
	// The for's local is gone with the for.
	l := Block(body(t, "let a = 1; for i to 5 {}"))
	if want := (api.Stmt{Kind: api.SCharge, Num: 5}); !reflect.DeepEqual(copyStmt(l[1]), want) {
		t.Errorf("%+v; not %+v", l[1], want)
	}
}

func TestBehindRet(t *testing.T) {
	rows(t, wantBlock, `
		ret 1; => ret 1;
		ret 1; ret 2; => ret 1;
		ret 1 + 1; set n = 3; => ret 2;
		set n = 1; ret 2; set n = 3; for i to 3 {} if b { ret 1; } => set n = 1; ret 2;
		ret 1 / 0; set n = 3; => ret (1 / 0);
		if true { ret 1; } set n = 2; => ret 1;
		if true { ret 1; set n = 2; } set n = 3; => ret 1;
		if true { set n = 1; if true { ret 1; } set n = 2; } set n = 3; => set n = 1; ret 1;
		if false { set n = 1; } else { ret 2; } ret 3; => ret 2;
		if false { ret 1; } set n = 2; => set n = 2;
		if true { if false { ret 1; } } set n = 2; ret 3; set n = 4; => set n = 2; ret 3;
		if b { ret 1; set n = 2; } set n = 3; => if b {ret 1;} set n = 3;
		if b { ret 1; } else { ret 2; } set n = 3; => if b {ret 1;} else {ret 2;} set n = 3;
		if b { set n = 1; } else { ret 2; set n = 4; } set n = 3; => if b {set n = 1;} else {ret 2;} set n = 3;
		if b { if true { ret 1; } set n = 2; } set n = 3; => if b {ret 1;} set n = 3;
		for i to 3 { ret i; set n = 2; } set n = 3; => for v5 to 3 {ret v5;} set n = 3;
		for i to 3 { if true { ret i; } set n = 2; } => for v5 to 3 {ret v5;}
		for i to 1 { ret 1; } ret 2; => for v5 to 1 {ret 1;} ret 2;
		for i to 0 { ret 1; } set n = 2; => set n = 2;
		let a = 1; ret a; let c = 2; => let v5 = 1; ret v5;`)
}

// Each kind of statement by itself, and what has none.
func TestStatements(t *testing.T) {
	rows(t, wantBlock, `
		let a = 1 + 2; => let v5 = 3;
		set n = 1 + 2; => set n = 3;
		set x = 1 + 2; => set x = 3;
		set l[1 + 2] = 3 * 4; => set l[3] = 12;
		set k[0 - 1] = -5; => set k[-1] = -5;
		set q["a" + "b"] = len("c"); => set q["ab"] = 1;
		set n = n; => set n = n;
		set l[1 / 0] = 1 + 2; => set l[(1 / 0)] = 3;
		del m["a" + str(1)]; => del m["a1"];
		del q[z + ("a" + "b")]; => del q[(z + "ab")];
		if b && true { del m["a"]; } => if b {del m["a"];}
		for i to n + (1 + 1) { set n = i; } => for v5 to (n + 2) {set n = v5;}
		ret 1 - 2; => ret -1;`)
	if l := Block(nil); len(l) != 0 {
		t.Errorf("of nothing: %+v", l)
	}
	if l := Block([]api.Stmt{}); len(l) != 0 {
		t.Errorf("of nothing: %+v", l)
	}
	// What stays keeps all that it has.
	kept := []api.Stmt{{Kind: api.SSet, Name: "a", Slot: 3, State: true, Num: 5, At: 7, E: []api.Expr{{Kind: api.ELocal, Slot: 2, Type: "int", At: 1}}}, {Kind: api.SIf, Name: "c", Slot: 1, Num: 2, At: 3, E: []api.Expr{{Kind: api.EState, Slot: 1, Type: "bool"}}, Body: []api.Stmt{{Kind: api.SCharge, Num: 3, At: 4}}, Else: []api.Stmt{{Kind: api.SDel, Slot: 9, E: []api.Expr{{Kind: api.EText, Type: "text"}}}}}}
	if got := Block(kept); !reflect.DeepEqual(copyStmts(got), kept) {
		t.Errorf("%+v; not %+v", got, kept)
	}
}

// Quiet of each Kind and each Op, with quiet Args and with one that isn't.
func TestQuiet(t *testing.T) {
	quiet, loud := api.Expr{Kind: api.ELocal, Type: "int"}, api.Expr{Kind: api.ECall, Type: "int"}
	for kind := -1; kind < 18; kind++ {
		for op := -1; op < 16; op++ {
			want := strings.Contains(" 1 2 3 4 5 8 9 11 14 ", fmt.Sprintf(" %d ", kind)) || kind == 15 && op >= 1 && op <= 8
			for _, args := range [][]api.Expr{nil, {}, {quiet}, {quiet, quiet}} {
				if Quiet(api.Expr{Kind: kind, Op: op, Args: args}) != want {
					t.Errorf("kind %d, op %d, %d args: not %v", kind, op, len(args), want)
				}
			}
			for _, args := range [][]api.Expr{{loud}, {quiet, loud}, {loud, quiet}, {quiet, {Kind: api.ENot, Args: []api.Expr{loud}}}} {
				if Quiet(api.Expr{Kind: kind, Op: op, Args: args}) {
					t.Errorf("kind %d, op %d with a loud one: it is quiet", kind, op)
				}
			}
		}
	}
}

// All but the bodies stays.
func TestOptimize(t *testing.T) {
	p := loaded(t, "version 7; state n: int; state m: {text:[bool]}; fn none(): text {} on add(x: int, y: [text]): {int:bool} { if true { let a = x; set n = a; } for i to 2 {} } fn f(x: int): int { ret 1 + 2; set n = 5; }")
	p.States[1].At, p.Fns[1].At, p.Fns[1].Params[1].At = 5, 6, 7
	want := copyProg(p)
	want.Fns[1].Body = append(want.Fns[1].Body[0].Body, api.Stmt{Kind: api.SCharge, Num: 2})
	want.Fns[2].Body = []api.Stmt{{Kind: api.SRet, E: []api.Expr{{Kind: api.EInt, Num: 3, Type: "int"}}}}
	if got := copyProg(Optimize(p)); !reflect.DeepEqual(got, want) {
		t.Errorf("%+v; not %+v", got, want)
	}
	if len(want.Fns[1].Locals) != 4 {
		t.Errorf("locals: %v", want.Fns[1].Locals)
	}
	for _, p := range []api.Prog{{}, {Version: 3}, {Version: -1, States: []api.Slot{{Name: "n", At: 2}}}, {Fns: []api.Fn{{}, {On: true, At: -4}}}} {
		if got := copyProg(Optimize(p)); !reflect.DeepEqual(got, copyProg(p)) {
			t.Errorf("%+v; not %+v", got, p)
		}
	}
}
