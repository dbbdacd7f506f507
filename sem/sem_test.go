package sem

import (
	"fmt"
	"math"
	"math/big"
	"slices"
	"strings"
	"testing"

	"quern/api"
	"quern/parse"
	"quern/types"
	"quern/value"
)

// P11.1: what is said of all calls, by hand.

const least, greatest = math.MinInt, math.MaxInt

func times(s string, n int) string { return strings.Repeat(s, n) }

func in(l ...any) []any { return l }

// filled answers a list of so many.
func filled(n int, x any) list { return slices.Repeat(list{x}, n) }

// counted answers a map of the keys from 0 to n - 1.
func counted(n int, x any) dict {
	d := dict{}
	for i := range n {
		d[i] = x
	}
	return d
}

func command(name string, args ...any) api.Command {
	return api.Command{Name: name, Args: valuesOf(args...)}
}

// loaded answers a program as it was read, and as it was checked.
func loaded(t *testing.T, s string) (read, p api.Prog) {
	t.Helper()
	if !strings.HasPrefix(s, "version") {
		s = "version 1; " + s
	}
	read, at, e := parse.Parse(s)
	if e == api.OK {
		p, at, e = types.Check(read)
	}
	if e != api.OK {
		t.Fatalf("%s: %d, %d: it isn't right", s, at, e)
	}
	return read, p
}

// shown is a value as the tables have it.
func shown(v api.Value) string {
	switch v.Kind {
	case 1:
		return fmt.Sprint(v.Num)
	case 2:
		return fmt.Sprint(v.Num == 1)
	case 3:
		if len(v.Text) > 20 {
			return fmt.Sprintf("%.3q.. %d", v.Text, len(v.Text))
		}
		return fmt.Sprintf("%q", v.Text)
	case 4:
		if len(v.List) > 8 {
			return fmt.Sprintf("[%s ..%d.. %s]", shown(v.List[0]), len(v.List), shown(v.List[len(v.List)-1]))
		}
		return "[" + shownAll(v.List) + "]"
	case 5:
		if len(v.List) > 16 {
			return fmt.Sprintf("{%s ..%d.. %s}", shown(v.List[0]), len(v.List)/2, shown(v.List[len(v.List)-2]))
		}
		var out []string
		for i := 0; i+1 < len(v.List); i += 2 {
			out = append(out, shown(v.List[i])+": "+shown(v.List[i+1]))
		}
		return "{" + strings.Join(out, ", ") + "}"
	}
	return fmt.Sprintf("kind %d", v.Kind)
}

func shownAll(l []api.Value) string {
	var out []string
	for _, v := range l {
		out = append(out, shown(v))
	}
	return strings.Join(out, ", ")
}

var errorNames = map[api.Errno]string{api.ErrState: "ErrState", api.ErrOver: "ErrOver", api.ErrZero: "ErrZero", api.ErrKey: "ErrKey", api.ErrSize: "ErrSize", api.ErrFuel: "ErrFuel", api.ErrCommand: "ErrCommand", api.ErrCode: "ErrCode"}

// told is what Call answers, as the tables have it: the state, the answer or the error, the fuel.
func told(states []api.Value, o api.Outcome) string {
	what := shown(o.Value)
	if o.Err != api.OK {
		what = errorNames[o.Err]
	}
	return fmt.Sprintf("%s -> %s / %d", shownAll(states), what, o.Fuel)
}

// wantCall asks what a command makes of a state; and all that the promises say of that.
func wantCall(t *testing.T, s string, states []any, c api.Command, fuel int, want string) {
	t.Helper()
	read, p := loaded(t, s)
	out, o := look(t, read, p, valuesOf(states...), c, fuel)
	if got := told(out, o); got != want {
		t.Errorf("%s: %s of %s with %d: %s; not %s", s, c.Name, shownAll(c.Args), fuel, got, want)
	}
}

func TestExamples(t *testing.T) {
	s := "state n: int; on add(x: int): int { set n = n + x; for i to 3 { set n = n + 1; } ret n; }"
	wantCall(t, s, in(0), command("add", 5), 10, "8 -> 8 / 7")
	wantCall(t, s, in(0), command("add", 5), 2, "0 -> ErrFuel / 0")
	wantCall(t, s, in(1), command("add", greatest), 10, "1 -> ErrOver / 10")
	s = "state n: int; on add(x: int): int { set n = n + x; ret n; }"
	wantCall(t, s, in(0), command("add", 5), 4096, "5 -> 5 / 4096")
	wantCall(t, s, in(5), command("add", greatest), 4096, "5 -> ErrOver / 4096")
	s = "state n: int; on many(): int { for i to 5000 { set n = n + 1; } ret n; }"
	wantCall(t, s, in(0), command("many"), greatest, "0 -> ErrFuel / 0")
}

// row is a call of the handler h.
type row struct {
	text   string
	states []any
	args   []any
	fuel   int
	want   string
}

func wantRows(t *testing.T, rows []row) {
	t.Helper()
	for _, c := range rows {
		wantCall(t, c.text, c.states, command("h", c.args...), c.fuel, c.want)
	}
}

// Statements.

func TestLet(t *testing.T) {
	wantRows(t, []row{
		{"on h(): int { let a = 2; ret a; }", in(), in(), 5, " -> 2 / 5"},
		{"state n: int; on h(): int { let a = n; set n = 9; ret a; }", in(4), in(), 5, "9 -> 4 / 5"},
		{"state n: int; on h(): int { let a = n; set a = 9; ret a; }", in(4), in(), 5, "4 -> 9 / 5"},
		{"on h(): int { let a = 1; if true { let b = a; set a = b + 5; } ret a; }", in(), in(), 5, " -> 6 / 5"},
		{"on h(): int { let s = 0; for i to 3 { let a = i * 10; set s = s + a; set a = 99; } ret s; }", in(), in(), 5, " -> 30 / 2"},
		{"on h(x: bool): int { if x { let a = 1; ret a; } else { let a = 2; ret a + 10; } }", in(), in(true), 5, " -> 1 / 5"},
		{"on h(x: bool): int { if x { let a = 1; ret a; } else { let a = 2; ret a + 10; } }", in(), in(false), 5, " -> 12 / 5"},
		{"state l: [int]; on h(): [int] { let a = l; set l = push(l, 3); let b = l; set b[0] = 7; ret push(a, b[0]); }", in(list{1}), in(), 5, "[1, 3] -> [1, 7] / 5"},
		{"state l: [[int]]; on h(): [int] { let a = l[0]; set a[0] = 9; let b = l; set b[0] = a; ret l[0]; }", in(list{list{1, 2}}), in(), 5, "[[1, 2]] -> [1, 2] / 5"},
		{"on h(): bool { let a = 1; let b = true; let c = \"x\"; let d = a; set a = 5; ret b && c == \"x\" && d == 1; }", in(), in(), 5, " -> true / 5"},
	})
}

func TestSet(t *testing.T) {
	wantRows(t, []row{
		{"state n: int; on h(x: int): int { set n = x; }", in(1), in(7), 5, "7 -> 0 / 5"},
		{"state n: int; on h(x: int): int { set x = x + 1; ret x; }", in(1), in(7), 5, "1 -> 8 / 5"},
		{"state n: int; on h(x: int): int { let y = 3; set y = x; set x = 0; ret y; }", in(1), in(7), 5, "1 -> 7 / 5"},
		{"state a: int; state b: text; state c: bool; on h(): int { set c = !c; set b = b + \"!\"; set a = a + 1; ret a; }", in(1, "x", false), in(), 5, `2, "x!", true -> 2 / 5`},
		{"state a: int; state b: int; on h(): int { let x = a; set a = b; set b = x; }", in(1, 2), in(), 5, "2, 1 -> 0 / 5"},
		{"state a: int; state b: int; on h(x: int, y: int): int { set b = x; set y = 9; ret y * 10 + x; }", in(1, 2), in(5, 6), 5, "1, 5 -> 95 / 5"},
		{"state a: [int]; state b: [int]; on h(): int { set a = b; set b[0] = 9; ret a[0]; }", in(list{1}, list{2}), in(), 5, "[2], [9] -> 2 / 5"},
		{"state a: [int]; state b: [int]; on h(): int { set a = b; set a[0] = 9; ret b[0]; }", in(list{1}, list{2}), in(), 5, "[9], [2] -> 2 / 5"},
		{"state a: [int]; on h(l: [int]): int { set a = l; set l[0] = 9; ret a[0]; }", in(list{}), in(list{4}), 5, "[4] -> 4 / 5"},
	})
}

func TestSetAtAPlace(t *testing.T) {
	s := "state l: [int]; on h(i: int, x: int): int { set l[i] = x; ret len(l); }"
	for _, c := range []struct {
		i    int
		want string
	}{
		{0, "[9, 2, 3] -> 3 / 5"}, {1, "[1, 9, 3] -> 3 / 5"}, {2, "[1, 2, 9] -> 3 / 5"},
		{3, "[1, 2, 3] -> ErrKey / 5"}, {-1, "[1, 2, 3] -> ErrKey / 5"}, {greatest, "[1, 2, 3] -> ErrKey / 5"}, {least, "[1, 2, 3] -> ErrKey / 5"},
	} {
		wantCall(t, s, in(list{1, 2, 3}), command("h", c.i, 9), 5, c.want)
	}
	wantCall(t, s, in(list{}), command("h", 0, 9), 5, "[] -> ErrKey / 5")
	s = "state m: {int:text}; on h(i: int, x: text): int { set m[i] = x; ret len(m); }"
	for _, c := range []struct {
		i    int
		want string
	}{
		{1, `{1: "n", 3: "c"} -> 2 / 5`}, {3, `{1: "a", 3: "n"} -> 2 / 5`}, {2, `{1: "a", 2: "n", 3: "c"} -> 3 / 5`}, {4, `{1: "a", 3: "c", 4: "n"} -> 3 / 5`},
		{least, `{-9223372036854775808: "n", 1: "a", 3: "c"} -> 3 / 5`},
	} {
		wantCall(t, s, in(dict{1: "a", 3: "c"}), command("h", c.i, "n"), 5, c.want)
	}
	wantRows(t, []row{
		{s, in(counted(63, "")), in(63, "n"), 5, `{0 ..64.. 63} -> 64 / 5`},
		{s, in(counted(64, "")), in(63, "n"), 5, `{0 ..64.. 63} -> 64 / 5`},
		{s, in(counted(64, "")), in(64, "n"), 5, `{0 ..64.. 63} -> ErrSize / 5`},
		{s, in(counted(64, "")), in(-1, ""), 5, `{0 ..64.. 63} -> ErrSize / 5`},
		{"state m: {text:{int:bool}}; on h(): int { let a = m[\"x\"]; set a[1] = true; set m[\"y\"] = a; ret len(m[\"x\"]); }", in(dict{"x": dict{0: false}}), in(), 5, `{"x": {0: false}, "y": {0: false, 1: true}} -> 1 / 5`},
		{"state l: [int]; on h(): int { let a = l; set a[0] = 9; ret a[0] * 10 + l[0]; }", in(list{1}), in(), 5, "[1] -> 91 / 5"},
		{"on h(l: [int], m: {text:int}): int { set l[1] = 5; set m[\"k\"] = l[1]; ret m[\"k\"]; }", in(), in(list{1, 2}, dict{}), 5, " -> 5 / 5"},
	})
}

// A list of texts weighs 1, and for each text 1 and its bytes.
func TestTooHeavy(t *testing.T) {
	full := filled(64, times("z", 255))
	nearly := append(filled(63, times("z", 255)), "")
	put := "state l: [text]; on h(i: int, x: text): int { set l[i] = x; ret len(l[i]); }"
	push := "state l: [text]; on h(x: text): int { set l = push(l, x); ret len(l); }"
	local := "on h(l: [text], x: text): int { let a = push(l, x); ret len(a); }"
	heavy := list{filled(64, times("z", 200)), filled(10, times("z", 255))}
	table := dict{}
	for i := range 31 {
		table[fmt.Sprintf("%d%s", i, times("k", 240))] = times("v", 256)
	}
	wantRows(t, []row{
		{put, in(nearly), in(63, times("z", 254)), 5, `["zzz".. 255 ..64.. "zzz".. 254] -> 254 / 5`},
		{put, in(nearly), in(63, times("z", 255)), 5, `["zzz".. 255 ..64.. ""] -> ErrSize / 5`},
		{put, in(nearly), in(64, times("z", 255)), 5, `["zzz".. 255 ..64.. ""] -> ErrKey / 5`},
		{push, in(full[:62]), in(times("z", 256)), 5, `["zzz".. 255 ..63.. "zzz".. 256] -> 63 / 5`},
		{push, in(full[:63]), in(times("z", 254)), 5, `["zzz".. 255 ..64.. "zzz".. 254] -> 64 / 5`},
		{push, in(full[:63]), in(times("z", 255)), 5, `["zzz".. 255 ..63.. "zzz".. 255] -> ErrSize / 5`},
		{push, in(filled(63, "")), in(""), 5, `["" ..64.. ""] -> 64 / 5`},
		{push, in(filled(64, "")), in(""), 5, `["" ..64.. ""] -> ErrSize / 5`},
		{local, in(), in(full[:63], times("z", 254)), 5, " -> 64 / 5"},
		{local, in(), in(full[:63], times("z", 255)), 5, " -> ErrSize / 5"},
		{"state l: [[text]]; on h(): int { set l[1] = push(l[1], \"\"); ret len(l[1]); }", in(heavy), in(), 5, `[["zzz".. 200 ..64.. "zzz".. 200], ["zzz".. 255 ..11.. ""]] -> 11 / 5`},
		{"state l: [[text]]; on h(): int { set l[1] = l[0]; ret len(l[1]); }", in(heavy), in(), 5, `[["zzz".. 200 ..64.. "zzz".. 200], ["zzz".. 255 ..10.. "zzz".. 255]] -> ErrSize / 5`},
		{"state m: {text:text}; on h(k: text, x: text): int { set m[k] = x; ret len(m); }", in(table), in("new", times("x", 256)), 5, `{"0kk".. 241 ..32.. "new"} -> 32 / 5`},
		{"state m: {text:text}; on h(k: text, x: text): int { for i to 5 { set m[k + str(i)] = x; } ret len(m); }", in(table), in(times("n", 255), times("x", 256)), 5, `{"0kk".. 241 ..31.. "9kk".. 241} -> ErrSize / 3`},
	})
}

func TestDel(t *testing.T) {
	s := "state m: {int:int}; on h(k: int): int { del m[k]; ret len(m); }"
	wantRows(t, []row{
		{s, in(dict{1: 5, 2: 6, 3: 7}), in(1), 5, "{2: 6, 3: 7} -> 2 / 5"},
		{s, in(dict{1: 5, 2: 6, 3: 7}), in(2), 5, "{1: 5, 3: 7} -> 2 / 5"},
		{s, in(dict{1: 5, 2: 6, 3: 7}), in(3), 5, "{1: 5, 2: 6} -> 2 / 5"},
		{s, in(dict{1: 5, 2: 6, 3: 7}), in(4), 5, "{1: 5, 2: 6, 3: 7} -> 3 / 5"},
		{s, in(dict{1: 5}), in(1), 5, "{} -> 0 / 5"},
		{s, in(dict{}), in(1), 5, "{} -> 0 / 5"},
		{s, in(counted(64, 1)), in(0), 5, "{1 ..63.. 63} -> 63 / 5"},
		{"state m: {text:int}; on h(): int { let a = m; del a[\"x\"]; ret len(a) * 10 + len(m); }", in(dict{"x": 1, "y": 2}), in(), 5, `{"x": 1, "y": 2} -> 12 / 5`},
		{"state m: {text:int}; on h(a: {text:int}): {text:int} { del a[\"x\"]; del a[\"x\"]; ret a; }", in(dict{"x": 1}), in(dict{"x": 1, "y": 2}), 5, `{"x": 1} -> {"y": 2} / 5`},
		{"state a: {int:int}; state b: {int:int}; on h(): int { del b[1]; }", in(dict{1: 1}, dict{1: 1}), in(), 5, "{1: 1}, {} -> 0 / 5"},
	})
}

func TestIf(t *testing.T) {
	with := "state n: int; on h(x: bool): int { if x { set n = 1; } else { set n = 2; } ret n + 10; }"
	without := "state n: int; on h(x: bool): int { if x { set n = 1; } ret n + 10; }"
	empty := "state n: int; on h(x: bool): int { if x {} else { set n = 2; } ret n + 10; }"
	chain := "on h(x: int): int { if x == 0 { ret 10; } else { if x == 1 { ret 11; } else { ret 12; } } ret 13; }"
	wantRows(t, []row{
		{with, in(5), in(true), 5, "1 -> 11 / 5"}, {with, in(5), in(false), 5, "2 -> 12 / 5"},
		{without, in(5), in(true), 5, "1 -> 11 / 5"}, {without, in(5), in(false), 5, "5 -> 15 / 5"},
		{empty, in(5), in(true), 5, "5 -> 15 / 5"}, {empty, in(5), in(false), 5, "2 -> 12 / 5"},
		{chain, in(), in(0), 5, " -> 10 / 5"}, {chain, in(), in(1), 5, " -> 11 / 5"}, {chain, in(), in(2), 5, " -> 12 / 5"},
		// The truth is reckoned once, whatever the block does to it.
		{"state n: int; on h(): int { if n == 0 { set n = 1; } else { set n = 2; } ret n; }", in(0), in(), 5, "1 -> 1 / 5"},
		{"state n: int; on h(): int { if n / 0 == 1 { ret 1; } ret 2; }", in(0), in(), 5, "0 -> ErrZero / 5"},
	})
}

func TestFor(t *testing.T) {
	s := "state n: int; on h(x: int): int { for i to x { set n = n * 10 + i + 1; } ret n; }"
	wantRows(t, []row{
		{s, in(0), in(0), 5, "0 -> 0 / 5"}, {s, in(0), in(1), 5, "1 -> 1 / 4"}, {s, in(0), in(2), 5, "12 -> 12 / 3"}, {s, in(0), in(5), 5, "12345 -> 12345 / 0"},
		{s, in(0), in(-1), 5, "0 -> 0 / 5"}, {s, in(0), in(least), 5, "0 -> 0 / 5"}, {s, in(0), in(-1), 0, "0 -> 0 / 0"},
		{s, in(0), in(6), 5, "0 -> ErrFuel / 0"}, {s, in(0), in(greatest), 5, "0 -> ErrFuel / 0"},
		// The number is reckoned once.
		{"state n: int; on h(): int { for i to n { set n = n + 1; } ret n; }", in(3), in(), 5, "6 -> 6 / 2"},
		{"state n: int; on h(): int { for i to n { set n = 0; } ret n; }", in(3), in(), 5, "0 -> 0 / 2"},
		{"on h(x: int): int { for i to x { set x = x - 1; } ret x; }", in(), in(4), 5, " -> 0 / 1"},
		{"state l: [int]; on h(): int { for i to len(l) { set l = push(l, i); } ret len(l); }", in(list{7, 8}), in(), 5, "[7, 8, 0, 1] -> 4 / 3"},
		{"state n: int; fn f(): int { set n = n + 1; ret n; } on h(): int { for i to f() {} ret n; }", in(2), in(), 9, "3 -> 3 / 5"},
		// In one another, and one behind the other.
		{"state n: int; on h(): int { for i to 2 { for j to 3 { set n = n * 10 + i * 3 + j; } } ret n; }", in(0), in(), 9, "12345 -> 12345 / 1"},
		{"state n: int; on h(): int { for i to 3 { for j to i { set n = n + 1; } } ret n; }", in(0), in(), 9, "3 -> 3 / 3"},
		{"state n: int; on h(): int { for i to 2 { set n = n + i; } for i to 3 { set n = n + i; } ret n; }", in(0), in(), 9, "4 -> 4 / 4"},
		{"on h(): int { let a = 0; for i to 3 { if i == 1 { set a = i; } } ret a; }", in(), in(), 9, " -> 1 / 6"},
	})
	// A unit is charged ahead of the turn.
	wantRows(t, []row{
		{"state n: int; on h(): int { for i to 2 { set n = 1 / n; } }", in(0), in(), 1, "0 -> ErrZero / 0"},
		{"state n: int; on h(): int { for i to 2 { set n = 1 / n; } }", in(0), in(), 0, "0 -> ErrFuel / 0"},
		{"on h(): int { for i to 4 {} ret 1; }", in(), in(), 4, " -> 1 / 0"},
		{"on h(): int { for i to 4 {} ret 1; }", in(), in(), 3, " -> ErrFuel / 0"},
		{"on h(): int { for i to 4096 {} ret 1; }", in(), in(), 4096, " -> 1 / 0"},
		{"on h(): int { for i to 4097 {} ret 1; }", in(), in(), 5000, " -> ErrFuel / 0"},
		{"on h(): int { for i to 1 / 0 {} ret 1; }", in(), in(), 3, " -> ErrZero / 3"},
	})
}

func TestRet(t *testing.T) {
	wantRows(t, []row{
		{"state n: int; on h(): int { ret 1; set n = 5; ret 2; }", in(0), in(), 5, "0 -> 1 / 5"},
		{"state n: int; on h(): int { if true { ret 1; } set n = 5; ret 2; }", in(0), in(), 5, "0 -> 1 / 5"},
		{"state n: int; on h(): int { if false { ret 1; } else { if true { ret 3; } set n = 4; } set n = 5; ret 2; }", in(0), in(), 5, "0 -> 3 / 5"},
		{"state n: int; on h(): int { if false { ret 1; } set n = 5; ret 2; }", in(0), in(), 5, "5 -> 2 / 5"},
		{"state n: int; on h(): int { for i to 5 { set n = n + 1; if i == 2 { ret i; } } ret 9; }", in(0), in(), 5, "3 -> 2 / 2"},
		{"state n: int; on h(): int { for i to 5 { for j to 5 { set n = n + 1; if i + j == 2 { ret 7; } } set n = n + 100; } ret 9; }", in(0), in(), 9, "3 -> 7 / 5"},
		{"state n: int; on h(): int { for i to 9223372036854775807 { if i == 4 { ret i; } } }", in(0), in(), 5, "0 -> 4 / 0"},
		{"state n: int; on h(): int { for i to 1 { ret 1; set n = 1; } set n = 2; }", in(0), in(), 5, "0 -> 1 / 4"},
		{"state n: int; on h(): int { ret n / 0; }", in(0), in(), 5, "0 -> ErrZero / 5"},
		// It ends its own function alone.
		{"state n: int; fn f(x: int): int { for i to 9 { if i == x { ret i * 10; } } ret -1; } on h(): int { set n = f(1); set n = n + f(2); ret n; }", in(0), in(), 9, "30 -> 30 / 2"},
		{"fn f(): int { ret 1; } on h(): int { for i to 3 { let a = f(); } ret 2; }", in(), in(), 9, " -> 2 / 3"},
		// A value that is the type's first one is an answer too.
		{"state n: int; on h(): int { ret 0; set n = 1; }", in(5), in(), 5, "5 -> 0 / 5"},
		{"state n: int; on h(): bool { if true { ret false; } set n = 1; ret true; }", in(5), in(), 5, "5 -> false / 5"},
	})
}

func TestNoRet(t *testing.T) {
	for _, c := range [][2]string{{"int", "0"}, {"bool", "false"}, {"text", `""`}, {"[int]", "[]"}, {"[[text]]", "[]"}, {"{int:bool}", "{}"}, {"{text:[int]}", "{}"}, {"[[[int]]]", "[]"}} {
		of, want := c[0], c[1]
		for _, body := range []string{"{}", "{ set n = 1; }", "{ if n == 7 { ret x; } }", "{ for i to 2 {} if false { ret x; } }", "{ for i to 0 { ret x; } }", "{ let a = x; }"} {
			read, p := loaded(t, "state n: int; fn f(x: "+of+"): "+of+" "+body+" on h(x: "+of+"): "+of+" { ret f(x); } on g(x: "+of+"): "+of+" "+body)
			x := firstOf(of)
			if of == "int" {
				x = 5
			}
			for _, name := range []string{"h", "g"} {
				_, o := look(t, read, p, valuesOf(0), command(name, x), 9)
				if got := shown(o.Value); got != want || o.Err != api.OK || !value.Fits(o.Value, of) {
					t.Errorf("%s %s: %s, %d; not %s", of, body, got, o.Err, want)
				}
			}
		}
	}
}

// charging answers a program of one handler, in which a charge of so many units stands ahead of a set of its state.
func charging(t *testing.T, n int, ahead, behind string) api.Prog {
	_, p := loaded(t, "state n: int; on h(): int { "+ahead+" set n = n + 1; "+behind+" }")
	body := p.Fns[0].Body
	i := slices.IndexFunc(body, func(s api.Stmt) bool { return s.Kind == api.SSet })
	p.Fns[0].Body = slices.Insert(body, i, api.Stmt{Kind: api.SCharge, Num: n})
	return p
}

func TestCharge(t *testing.T) {
	for _, c := range []struct {
		units, fuel int
		want        string
	}{
		{0, 5, "1 -> 1 / 5"}, {0, 0, "1 -> 1 / 0"}, {1, 5, "1 -> 1 / 4"}, {1, 1, "1 -> 1 / 0"}, {1, 0, "0 -> ErrFuel / 0"},
		{5, 5, "1 -> 1 / 0"}, {6, 5, "0 -> ErrFuel / 0"}, {4, 5, "1 -> 1 / 1"}, {4096, 4096, "1 -> 1 / 0"}, {4096, 9999, "1 -> 1 / 0"}, {4097, 9999, "0 -> ErrFuel / 0"},
		{1 << 40, 4096, "0 -> ErrFuel / 0"}, {greatest, 4096, "0 -> ErrFuel / 0"},
	} {
		p := charging(t, c.units, "", "ret n;")
		if got := told(Call(p, valuesOf(0), command("h"), c.fuel)); got != c.want {
			t.Errorf("a charge of %d with %d: %s; not %s", c.units, c.fuel, got, c.want)
		}
	}
	for _, c := range []struct {
		units, fuel   int
		ahead, behind string
		want          string
	}{
		{3, 9, "for i to 4 {}", "ret n;", "1 -> 1 / 2"}, {3, 7, "for i to 4 {}", "ret n;", "1 -> 1 / 0"}, {3, 6, "for i to 4 {}", "ret n;", "0 -> ErrFuel / 0"},
		{3, 9, "", "for i to 6 {} ret n;", "1 -> 1 / 0"}, {3, 9, "", "for i to 7 {} ret n;", "0 -> ErrFuel / 0"},
		{3, 9, "let a = 1 / n;", "", "0 -> ErrZero / 9"}, {3, 9, "", "ret 1 / (n - 1);", "0 -> ErrZero / 6"},
		{3, 9, "if n == 0 { ret 5; }", "", "0 -> 5 / 9"}, {3, 9, "", "", "1 -> 0 / 6"},
	} {
		p := charging(t, c.units, c.ahead, c.behind)
		if got := told(Call(p, valuesOf(0), command("h"), c.fuel)); got != c.want {
			t.Errorf("%s, a charge of %d, %s with %d: %s; not %s", c.ahead, c.units, c.behind, c.fuel, got, c.want)
		}
	}
	// Within blocks, turns and calls.
	_, p := loaded(t, "state n: int; fn f(): int { if true { ret 1; } } on h(): int { for i to 3 { set n = n + f(); } ret n; }")
	p.Fns[0].Body[0].Body = slices.Insert(p.Fns[0].Body[0].Body, 0, api.Stmt{Kind: api.SCharge, Num: 2})
	p.Fns[1].Body[0].Body = append(p.Fns[1].Body[0].Body, api.Stmt{Kind: api.SCharge, Num: 10})
	for fuel, want := range map[int]string{50: "3 -> 3 / 8", 42: "3 -> 3 / 0", 41: "0 -> ErrFuel / 0"} {
		if got := told(Call(p, valuesOf(0), command("h"), fuel)); got != want {
			t.Errorf("with %d: %s; not %s", fuel, got, want)
		}
	}
}

// Exprs.

func TestExprs(t *testing.T) {
	all := []struct{ x, of, want string }{
		{"0", "int", "0"}, {"9223372036854775807", "int", "9223372036854775807"}, {"-9223372036854775807 - 1", "int", "-9223372036854775808"},
		{"true", "bool", "true"}, {"false", "bool", "false"}, {`""`, "text", `""`}, {`"a\"\\b"`, "text", `"a\"\\b"`},
		{"x", "int", "7"}, {"s", "text", `"sea"`}, {"b", "bool", "true"}, {"n", "int", "4"}, {"l", "[int]", "[5, 6]"}, {"m", "{text:int}", `{"k": 8}`}, {"ll", "[[int]]", "[[1], []]"},
		{"1 + 2", "int", "3"}, {"1 - 2", "int", "-1"}, {"3 * 4", "int", "12"}, {"7 / 2", "int", "3"}, {"7 % 4", "int", "3"}, {"-7 / 2", "int", "-3"}, {"-7 % 4", "int", "-3"}, {"7 / -2", "int", "-3"}, {"7 % -4", "int", "3"},
		{"n - x - 1", "int", "-4"}, {"x - (n - 1)", "int", "4"}, {"2 + 3 * 4", "int", "14"},
		{"1 < 2", "bool", "true"}, {"2 < 2", "bool", "false"}, {"2 <= 2", "bool", "true"}, {"3 <= 2", "bool", "false"}, {"2 > 1", "bool", "true"}, {"2 > 2", "bool", "false"}, {"2 >= 2", "bool", "true"}, {"2 >= 3", "bool", "false"},
		{"1 == 1", "bool", "true"}, {"1 == 2", "bool", "false"}, {"1 != 1", "bool", "false"}, {"1 != 2", "bool", "true"},
		{`"a" < "b"`, "bool", "true"}, {`"a" < ""`, "bool", "false"}, {`"B" < "a"`, "bool", "true"}, {`"a" <= "a"`, "bool", "true"}, {`"ab" > "a"`, "bool", "true"}, {`"a" >= "ab"`, "bool", "false"}, {`s == "sea"`, "bool", "true"}, {`s != "sea"`, "bool", "false"},
		{"b == true", "bool", "true"}, {"b != true", "bool", "false"}, {"l == l", "bool", "true"}, {"l == push(l, 1)", "bool", "false"}, {"l != push(l, 1)", "bool", "true"}, {"m == m", "bool", "true"}, {"m != m", "bool", "false"}, {"ll[0] == push(ll[1], 1)", "bool", "true"},
		{`s + "!" + s`, "text", `"sea!sea"`}, {`"" + ""`, "text", `""`},
		{"-x", "int", "-7"}, {"--x", "int", "7"}, {"-(-9223372036854775807)", "int", "9223372036854775807"}, {"!b", "bool", "false"}, {"!!b", "bool", "true"}, {"!(1 > 2)", "bool", "true"},
		{"len(s)", "int", "3"}, {"len(l)", "int", "2"}, {"len(m)", "int", "1"}, {`len("")`, "int", "0"}, {"len(ll[1])", "int", "0"},
		{`has(m, "k")`, "bool", "true"}, {`has(m, "")`, "bool", "false"},
		{"push(l, 9)", "[int]", "[5, 6, 9]"}, {"push(push(l, 9), 8)", "[int]", "[5, 6, 9, 8]"}, {"push(ll, l)", "[[int]]", "[[1], [], [5, 6]]"},
		{"str(x)", "text", `"7"`}, {"str(-x)", "text", `"-7"`}, {"str(-9223372036854775807 - 1)", "text", `"-9223372036854775808"`},
		{"l[0]", "int", "5"}, {"l[1]", "int", "6"}, {"ll[0][0]", "int", "1"}, {`m["k"]`, "int", "8"}, {`m["" + "k"] + l[n - 3]`, "int", "14"},
		{"twice(x)", "int", "14"}, {"twice(twice(n))", "int", "16"}, {"twice(l[0]) + twice(1)", "int", "12"},
		{"b && b", "bool", "true"}, {"b && !b", "bool", "false"}, {"!b && b", "bool", "false"}, {"!b && !b", "bool", "false"},
		{"b || b", "bool", "true"}, {"b || !b", "bool", "true"}, {"!b || b", "bool", "true"}, {"!b || !b", "bool", "false"},
		{"b && !b || b", "bool", "true"}, {"b || b && !b", "bool", "true"}, {"(b || b) && !b", "bool", "false"}, {"b && b && b && !b", "bool", "false"}, {"!b || !b || !b || b", "bool", "true"},
	}
	states := in(4, "sea", list{5, 6}, dict{"k": 8}, list{list{1}, list{}})
	for _, c := range all {
		s := "state n: int; state s: text; state l: [int]; state m: {text:int}; state ll: [[int]]; fn twice(x: int): int { ret x * 2; } on h(x: int, b: bool): " + c.of + " { ret " + c.x + "; }"
		read, p := loaded(t, s)
		out, o := look(t, read, p, valuesOf(states...), command("h", 7, true), 9)
		if got := shown(o.Value); got != c.want || o.Err != api.OK || o.Fuel != 9-strings.Count(c.x, "twice") || !sameAll(out, valuesOf(states...)) {
			t.Errorf("%s: %s, %d, %d; not %s", c.x, got, o.Err, o.Fuel, c.want)
		}
	}
}

func TestExprsThatTrap(t *testing.T) {
	for x, want := range map[string]api.Errno{
		"9223372036854775807 + 1": api.ErrOver, "-9223372036854775807 - 2": api.ErrOver, "4611686018427387904 * 2": api.ErrOver, "-x": api.ErrOver, "x / -1": api.ErrOver, "x * -1": api.ErrOver, "-1 * x": api.ErrOver, "x - 1": api.ErrOver,
		"1 / 0": api.ErrZero, "1 % 0": api.ErrZero, "x / 0": api.ErrZero, "0 / 0": api.ErrZero,
		"l[2]": api.ErrKey, "l[-1]": api.ErrKey, "l[x]": api.ErrKey, "l[9223372036854775807]": api.ErrKey, `m[""]`: api.ErrKey, `m["K"]`: api.ErrKey, "push(l, 1)[3]": api.ErrKey,
		"len(s + \"x\")": api.ErrSize, "len(\"x\" + s)": api.ErrSize, "len(s + s)": api.ErrSize, "len(push(f, 1))": api.ErrSize,
	} {
		s := "state s: text; state l: [int]; state m: {text:int}; state f: [int]; on h(x: int): int { ret " + x + "; }"
		read, p := loaded(t, s)
		states := valuesOf(times("z", 256), list{5, 6}, dict{"k": 8}, filled(64, 1))
		if _, o := look(t, read, p, states, command("h", least), 9); o.Err != want || o.Fuel != 9 {
			t.Errorf("%s: %d, %d; not %d", x, o.Err, o.Fuel, want)
		}
	}
}

func TestSecondSide(t *testing.T) {
	for _, c := range []struct{ x, want string }{
		{"false && 1 / 0 == 0", "0 -> false / 9"}, {"true && 1 / 0 == 0", "0 -> ErrZero / 9"}, {"true || 1 / 0 == 0", "0 -> true / 9"}, {"false || 1 / 0 == 0", "0 -> ErrZero / 9"},
		{"1 / 0 == 0 && false", "0 -> ErrZero / 9"}, {"1 / 0 == 0 || true", "0 -> ErrZero / 9"},
		{"false && f()", "0 -> false / 9"}, {"true && f()", "1 -> true / 8"}, {"true || f()", "0 -> true / 9"}, {"false || f()", "1 -> true / 8"},
		{"f() && false", "1 -> false / 8"}, {"f() || f()", "1 -> true / 8"}, {"f() && f()", "2 -> true / 7"}, {"!f() && f()", "1 -> false / 8"}, {"!f() || f()", "2 -> true / 7"},
		{"false && f() || f()", "1 -> true / 8"}, {"true || f() && f()", "0 -> true / 9"}, {"(true || f()) && f()", "1 -> true / 8"}, {"false && (f() || f())", "0 -> false / 9"},
		{"false && false && f()", "0 -> false / 9"}, {"false && f() && f()", "0 -> false / 9"}, {"true || f() || f()", "0 -> true / 9"},
		{"!(false && f())", "0 -> true / 9"}, {"(true || f()) == (false && f())", "0 -> false / 9"},
	} {
		wantCall(t, "state n: int; fn f(): bool { set n = n + 1; ret true; } on h(): bool { ret "+c.x+"; }", in(0), command("h"), 9, c.want)
	}
}

// The function t notes its argument in the state log, so that the order in which values are reckoned can be seen.
func TestOrder(t *testing.T) {
	s := "state log: int; state l: [int]; state m: {int:int}; fn t(x: int): int { set log = log * 10 + x; ret x; } fn tl(x: int): [int] { set log = log * 10 + x; ret l; } fn tm(x: int): {int:int} { set log = log * 10 + x; ret m; } fn tb(x: int, b: bool): bool { set log = log * 10 + x; ret b; } fn three(a: int, b: int, c: int): int { set log = log * 10 + 9; ret a * 100 + b * 10 + c; } on h(): int { let a = t(0); let al = l; let am = m; BODY ret log; }"
	for _, c := range []struct {
		body string
		want int
	}{
		{"set a = t(1) + t(2) * t(3);", 123}, {"set a = (t(1) + t(2)) * t(3);", 123}, {"set a = t(1) + (t(2) - t(3));", 123},
		{"let b = t(1) == t(2);", 12}, {"let b = t(1) != t(2);", 12}, {"let b = t(1) < t(2);", 12}, {"let b = t(1) <= t(2);", 12}, {"let b = t(1) > t(2);", 12}, {"let b = t(1) >= t(2);", 12},
		{"let b = t(1) + t(2);", 12}, {"let b = t(1) - t(2);", 12}, {"let b = t(1) * t(2);", 12}, {"let b = t(1) / t(2);", 12}, {"let b = t(1) % t(2);", 12},
		{"let b = tb(1, true) && tb(2, true);", 12}, {"let b = tb(1, false) || tb(2, true);", 12}, {"let b = tb(1, false) && tb(2, true);", 1},
		{"set a = -t(1) + -t(2);", 12}, {"let b = !tb(1, true) == !tb(2, true);", 12},
		{"set a = three(t(1), t(2), t(3));", 1239}, {"set a = three(three(t(1), t(2), t(3)), t(4), t(5));", 1239459}, {"set a = t(t(t(1)));", 111},
		{"set a = tl(1)[t(2)];", 12}, {"set a = tm(1)[t(2)];", 12}, {"set al = push(tl(1), t(2));", 12}, {"let b = has(tm(1), t(2));", 12}, {"set a = len(tl(1)) + len(str(t(2)));", 12},
		{"set l[t(1)] = t(2);", 12}, {"set m[t(1)] = t(2);", 12}, {"set al[t(1)] = t(2);", 12}, {"set am[t(1)] = t(2) + t(3);", 123}, {"del m[t(1)];", 1}, {"del am[t(1) + t(2)];", 12},
		{"if tb(1, true) { set a = t(2); } else { set a = t(3); }", 12}, {"if tb(1, false) { set a = t(2); } else { set a = t(3); }", 13},
		{"for i to t(2) { set a = t(i + 4); }", 245}, {"for i to t(0) { set a = t(1); } set a = t(2);", 2},
	} {
		read, p := loaded(t, strings.Replace(s, "BODY", c.body, 1))
		out, o := look(t, read, p, valuesOf(0, list{7, 8, 9}, dict{1: 7, 2: 8}), command("h"), 99)
		if o.Value.Num != c.want || out[0].Num != c.want || o.Err != api.OK {
			t.Errorf("%s: %s; not %d", c.body, told(out, o), c.want)
		}
	}
}

// Values are those of the moment at which they are reckoned.
func TestAsTheyAreThen(t *testing.T) {
	bump := "state n: int; state l: [int]; state m: {int:int}; fn bump(): int { set n = n + 1; ret n; } fn grow(): int { set l = push(l, 100 + len(l)); ret len(l) - 1; } fn note(k: int): int { set m[k] = k * 10; ret k; } fn clear(k: int): int { del m[k]; ret k; } "
	for _, c := range []struct{ head, body, want string }{
		{"int", "ret n * 100 + bump();", "6, [1], {1: 1} -> 506 / 8"}, {"int", "ret bump() * 100 + n;", "6, [1], {1: 1} -> 606 / 8"}, {"int", "ret n * 10000 + bump() * 100 + n;", "6, [1], {1: 1} -> 50606 / 8"},
		{"bool", "ret n == bump();", "6, [1], {1: 1} -> false / 8"}, {"bool", "ret bump() == n;", "6, [1], {1: 1} -> true / 8"},
		{"int", "ret l[grow()];", "5, [1], {1: 1} -> ErrKey / 8"}, {"[int]", "ret push(l, grow());", "5, [1, 101], {1: 1} -> [1, 1] / 8"}, {"bool", "ret has(m, note(2));", "5, [1], {1: 1, 2: 20} -> false / 8"}, {"bool", "ret note(2) == 2 && has(m, 2);", "5, [1], {1: 1, 2: 20} -> true / 8"},
		{"bool", "ret has(m, clear(1));", "5, [1], {} -> true / 8"}, {"int", "ret m[clear(1)];", "5, [1], {} -> 1 / 8"}, {"int", "let a = clear(1); ret m[a];", "5, [1], {1: 1} -> ErrKey / 8"},
		// A set and a del change what there is behind their exprs.
		{"int", "set l[grow()] = 7; ret len(l);", "5, [1, 7], {1: 1} -> 2 / 8"}, {"int", "set l[0] = grow(); ret len(l);", "5, [1, 101], {1: 1} -> 2 / 8"},
		{"int", "set m[note(2)] = note(3); ret len(m);", "5, [1], {1: 1, 2: 3, 3: 30} -> 3 / 7"}, {"int", "set m[1] = clear(1); ret len(m);", "5, [1], {1: 1} -> 1 / 8"}, {"int", "set m[5] = clear(1); ret len(m);", "5, [1], {5: 1} -> 1 / 8"},
		{"int", "del m[note(2)]; ret len(m);", "5, [1], {1: 1} -> 1 / 8"}, {"int", "del m[1 + note(0)]; ret len(m);", "5, [1], {0: 0} -> 1 / 8"}, {"int", "set n = bump() + bump(); ret n;", "13, [1], {1: 1} -> 13 / 7"}, {"int", "set n = n + bump(); ret n;", "11, [1], {1: 1} -> 11 / 8"},
		{"int", "let a = n; set a = a + bump() + n; ret a;", "6, [1], {1: 1} -> 17 / 8"},
	} {
		wantCall(t, bump+"on h(): "+c.head+" { "+c.body+" }", in(5, list{1}, dict{1: 1}), command("h"), 9, c.want)
	}
}

// Of several traps the one that comes first is told, with the fuel that is left then.
func TestFirstTrap(t *testing.T) {
	fs := "state n: int; state l: [int]; state m: {int:int}; fn f(): int { set n = n + 1; ret 1; } fn g(x: int): int { set n = n + 1; ret x; } "
	for _, c := range []struct {
		body string
		fuel int
		want string
	}{
		{"let a = 1 / 0 + f();", 9, "ErrZero / 9"}, {"let a = f() + 1 / 0;", 9, "ErrZero / 8"}, {"let a = 1 / 0 + l[0];", 9, "ErrZero / 9"}, {"let a = l[0] + 1 / 0;", 9, "ErrKey / 9"},
		{"let a = g(1 / 0);", 9, "ErrZero / 9"}, {"let a = g(1 / 0);", 0, "ErrZero / 0"}, {"let a = g(1);", 0, "ErrFuel / 0"}, {"let a = g(g(1));", 1, "ErrFuel / 0"}, {"let a = g(g(1 / 0));", 1, "ErrZero / 1"}, {"let a = g(g(1)) / 0;", 2, "ErrZero / 0"}, {"let a = g(g(1) / 0);", 2, "ErrZero / 1"},
		{"set l[9] = 1 / 0;", 9, "ErrZero / 9"}, {"set l[1 / 0] = -n + l[0];", 9, "ErrZero / 9"}, {"set l[l[0]] = 1 / 0;", 9, "ErrKey / 9"}, {"set l[0] = f();", 9, "ErrKey / 8"}, {"set l[f()] = f();", 9, "ErrKey / 7"}, {"set l[f()] = f();", 1, "ErrFuel / 0"}, {"del m[1 / 0];", 9, "ErrZero / 9"}, {"del m[m[0]];", 9, "ErrKey / 9"},
		{"if 1 / 0 == 1 { set n = 1; } else { set n = 2; }", 9, "ErrZero / 9"}, {"for i to l[0] {}", 0, "ErrKey / 0"}, {"for i to 1 + f() { set l[i] = 1; }", 2, "ErrKey / 0"},
		{"ret 9223372036854775807 + f();", 9, "ErrOver / 8"}, {"ret f() - -9223372036854775807 + 1 / 0;", 9, "ErrOver / 8"}, {"ret len(push(l, 1 / 0));", 9, "ErrZero / 9"}, {"ret -(1 / 0);", 9, "ErrZero / 9"}, {"ret len(str(1 / 0));", 9, "ErrZero / 9"}, {"if !(1 / 0 == 0) {}", 9, "ErrZero / 9"}, {"if has(m, 1 / 0) {}", 9, "ErrZero / 9"},
		{"for i to 5 { set n = 10 / (3 - i); }", 9, "ErrZero / 5"}, {"for i to 5 { set n = g(10 / (3 - i)); }", 9, "ErrZero / 2"},
	} {
		wantCall(t, fs+"on h(): int { set n = 50; set m[7] = 7; "+c.body+" }", in(0, list{}, dict{}), command("h"), c.fuel, "0, [], {} -> "+c.want)
	}
}

// Functions and fuel.

func TestCalls(t *testing.T) {
	wantRows(t, []row{
		{"fn a(): int { ret 1; } fn b(): int { ret a() + 1; } fn c(): int { ret b() + a() + 1; } on h(): int { ret c() + 1; }", in(), in(), 4, " -> 5 / 0"},
		{"fn a(): int { ret 1; } fn b(): int { ret a() + 1; } fn c(): int { ret b() + a() + 1; } on h(): int { ret c() + 1; }", in(), in(), 3, " -> ErrFuel / 0"},
		{"on h(): int { ret 1; }", in(), in(), 0, " -> 1 / 0"},
		{"fn a(x: int): int { ret x + 1; } on h(x: int): int { ret a(a(a(x))); }", in(), in(5), 9, " -> 8 / 6"},
		{"fn a(x: int): int { for i to x {} ret x; } on h(x: int): int { for i to 2 { let b = a(i + x); } ret 0; }", in(), in(2), 9, " -> 0 / 0"},
		{"fn a(x: int): int { for i to x {} ret x; } on h(x: int): int { for i to 2 { let b = a(i + x); } ret 0; }", in(), in(2), 8, " -> ErrFuel / 0"},
		// A function's locals are its own, and new in each call.
		{"fn f(a: int): int { set a = a + 1; let b = a * 2; ret b; } on h(a: int): int { let b = 100; let c = f(a); ret a * 1000 + b + c; }", in(), in(5), 9, " -> 5112 / 8"},
		{"fn f(l: [int]): [int] { set l[0] = 9; ret l; } on h(l: [int]): [int] { let m = f(l); ret push(l, m[0]); }", in(), in(list{1}), 9, " -> [1, 9] / 8"},
		{"fn f(x: int): int { if x == 0 { let a = 5; ret a; } else { let b = 7; ret b; } } on h(): int { ret f(0) * 100 + f(1) * 10 + f(0); }", in(), in(), 9, " -> 575 / 6"},
		{"fn f(x: int, y: int): int { ret x * 10 + y; } on h(): int { ret f(1, f(2, 3)); }", in(), in(), 9, " -> 33 / 7"},
		{"fn sub(x: int, y: text, z: bool): text { if z { ret y + str(x); } ret str(x) + y; } on h(): text { ret sub(1, sub(2, \"a\", true), false) + sub(3, \"\", true); }", in(), in(), 9, ` -> "1a23" / 6`},
		// The states are the same for all.
		{"state n: int; fn f(): int { set n = n + 1; ret n; } fn g(): int { let a = f(); set n = n * 10; ret f(); } on h(): int { set n = 1; let a = g(); ret n + a; }", in(9), in(), 9, "21 -> 42 / 6"},
		{"state l: [int]; fn f(x: int): [int] { set l = push(l, x); ret l; } on h(): int { let a = f(1); let b = f(2); ret len(a) * 10 + len(b); }", in(list{}), in(), 9, "[1, 2] -> 12 / 7"},
		// A function that stands ahead, but not the first.
		{"fn a(): int { ret 1; } on x(): int { ret 0; } fn b(): int { ret 2; } fn c(): int { ret 3; } on h(): int { ret b() * 10 + c(); }", in(), in(), 9, " -> 23 / 7"},
	})
}

// Each function calls the one ahead twice: a unit for each call, however deep.
func TestManyCalls(t *testing.T) {
	text := "state n: int; fn f0(): int { set n = n + 1; ret 1; }"
	for i := 1; i < 13; i++ {
		text += fmt.Sprintf(" fn f%d(): int { ret f%d() + f%d(); }", i, i-1, i-1)
	}
	for i := range 13 {
		s := fmt.Sprintf("%s on h(): int { ret f%d(); }", text, i)
		calls, leaves := 1<<(i+1)-1, 1<<i
		if i == 12 {
			wantCall(t, s, in(0), command("h"), 4096, "0 -> ErrFuel / 0")
			break
		}
		wantCall(t, s, in(0), command("h"), 4096, fmt.Sprintf("%d -> %d / %d", leaves, leaves, 4096-calls))
		wantCall(t, s, in(0), command("h"), calls, fmt.Sprintf("%d -> %d / 0", leaves, leaves))
		wantCall(t, s, in(0), command("h"), calls-1, "0 -> ErrFuel / 0")
	}
}

func TestFuel(t *testing.T) {
	s := "state n: int; fn f(x: int): int { ret x; } on h(x: int): int { for i to x { set n = n + f(1); } ret n; }"
	for _, c := range []struct {
		turns, fuel int
		want        string
	}{
		{0, 0, "0 -> 0 / 0"}, {0, -1, "0 -> 0 / 0"}, {0, least, "0 -> 0 / 0"}, {0, 1, "0 -> 0 / 1"}, {0, 4095, "0 -> 0 / 4095"}, {0, 4096, "0 -> 0 / 4096"}, {0, 4097, "0 -> 0 / 4096"}, {0, greatest, "0 -> 0 / 4096"},
		{1, 0, "0 -> ErrFuel / 0"}, {1, -1, "0 -> ErrFuel / 0"}, {1, least, "0 -> ErrFuel / 0"}, {1, 1, "0 -> ErrFuel / 0"}, {1, 2, "1 -> 1 / 0"}, {1, 3, "1 -> 1 / 1"},
		{5, 9, "0 -> ErrFuel / 0"}, {5, 10, "5 -> 5 / 0"}, {5, 11, "5 -> 5 / 1"}, {5, 4096, "5 -> 5 / 4086"}, {5, 4097, "5 -> 5 / 4086"}, {5, 1 << 40, "5 -> 5 / 4086"},
		{2047, 4096, "2047 -> 2047 / 2"}, {2048, 4095, "0 -> ErrFuel / 0"}, {2048, 4096, "2048 -> 2048 / 0"}, {2048, greatest, "2048 -> 2048 / 0"}, {2049, 4096, "0 -> ErrFuel / 0"}, {2049, 4098, "0 -> ErrFuel / 0"}, {2049, greatest, "0 -> ErrFuel / 0"},
	} {
		wantCall(t, s, in(0), command("h", c.turns), c.fuel, c.want)
	}
	for fuel, want := range map[int]string{least: "3 -> ErrCommand / 0", -1: "3 -> ErrCommand / 0", 0: "3 -> ErrCommand / 0", 7: "3 -> ErrCommand / 7", 4096: "3 -> ErrCommand / 4096", 4097: "3 -> ErrCommand / 4096", greatest: "3 -> ErrCommand / 4096"} {
		wantCall(t, s, in(3), command("none"), fuel, want)
	}
	for _, fuel := range []int{least, -1, 0, 7, 4096, greatest} {
		wantCall(t, s, in(), command("h", 0), fuel, " -> ErrState / 0")
	}
}

// Operators.

// strange are values, also such as are of no type.
func strange() []api.Value {
	out := valuesOf(0, 1, -1, 2, least, least+1, greatest, greatest-1, true, false, "", "a", "b", "ab", "\x00", "\xff", times("z", 128), times("z", 256), times("z", 255), list{}, list{1}, list{1, 2}, list{list{}}, list{"a"}, dict{}, dict{1: 2}, dict{"a": 1}, dict{1: list{}})
	text, number := valueOf("a"), valueOf(1)
	text.Num, number.Text = 5, "t"
	odd, long := valueOf(3), valueOf(times("z", 300))
	odd.List = valuesOf(1)
	return append(out, text, number, odd, long, api.Value{}, api.Value{Kind: 6}, api.Value{Kind: -1}, api.Value{Kind: 2, Num: 2}, api.Value{Kind: greatest, Num: 3}, api.Value{Kind: least})
}

// plainBinary says the chapter's words on Binary once more.
func plainBinary(op int, a, b api.Value) (api.Value, api.Errno) {
	c := value.Compare(a, b)
	switch op {
	case 3:
		return valueOf(c == 0), 0
	case 4:
		return valueOf(c != 0), 0
	}
	texts, numbers := a.Kind == 3 && b.Kind == 3, a.Kind == 1 && b.Kind == 1
	switch {
	case op < 3 || op > 13 || !texts && !numbers:
		return api.Value{}, api.ErrCode
	case op < 9:
		return valueOf(ordering(marks[op-1], c)), 0
	case texts && op > 9:
		return api.Value{}, api.ErrCode
	}
	x, e := any(nil), api.OK
	if texts {
		x, e = plainOp("+", a.Text, b.Text)
	} else {
		x, e = plainOp(marks[op-1], a.Num, b.Num)
	}
	if e != 0 {
		return api.Value{}, e
	}
	return valueOf(x), 0
}

func wantBinary(t *testing.T, op int, a, b api.Value) {
	t.Helper()
	v, e := Binary(op, a, b)
	if want, err := plainBinary(op, a, b); !alike(v, want) || e != err {
		t.Errorf("Binary %d of %s and %s: %+v, %d; not %+v, %d", op, shown(a), shown(b), v, e, want, err)
	}
}

func TestBinary(t *testing.T) {
	all := strange()
	for op := -3; op < 20; op++ {
		for _, a := range all {
			for _, b := range all {
				wantBinary(t, op, a, b)
			}
		}
	}
	for _, op := range []int{least, greatest, 1 << 32, 1<<32 + 9, -9, 256 + 9, 1<<8 + 3, 99} {
		for _, a := range all {
			wantBinary(t, op, a, a)
		}
	}
}

func TestNumbers(t *testing.T) {
	for _, c := range []struct {
		op, a, b, want int
		e              api.Errno
	}{
		{api.OpAdd, 2, 3, 5, 0}, {api.OpAdd, greatest, 0, greatest, 0}, {api.OpAdd, greatest, 1, 0, api.ErrOver}, {api.OpAdd, 1, greatest, 0, api.ErrOver}, {api.OpAdd, least, -1, 0, api.ErrOver}, {api.OpAdd, -1, least, 0, api.ErrOver}, {api.OpAdd, least, least, 0, api.ErrOver}, {api.OpAdd, greatest, greatest, 0, api.ErrOver}, {api.OpAdd, least, greatest, -1, 0}, {api.OpAdd, greatest, least, -1, 0}, {api.OpAdd, least, 0, least, 0}, {api.OpAdd, 0, least, least, 0}, {api.OpAdd, least + 1, -1, least, 0},
		{api.OpSub, 2, 3, -1, 0}, {api.OpSub, least, 1, 0, api.ErrOver}, {api.OpSub, least, 0, least, 0}, {api.OpSub, least, -1, least + 1, 0}, {api.OpSub, 0, least, 0, api.ErrOver}, {api.OpSub, -1, least, greatest, 0}, {api.OpSub, least, least, 0, 0}, {api.OpSub, greatest, greatest, 0, 0}, {api.OpSub, greatest, -1, 0, api.ErrOver}, {api.OpSub, greatest, least, 0, api.ErrOver}, {api.OpSub, least, greatest, 0, api.ErrOver}, {api.OpSub, 0, greatest, least + 1, 0}, {api.OpSub, -1, greatest, least, 0}, {api.OpSub, -2, greatest, 0, api.ErrOver},
		{api.OpMul, 6, 7, 42, 0}, {api.OpMul, -6, 7, -42, 0}, {api.OpMul, 6, -7, -42, 0}, {api.OpMul, -6, -7, 42, 0}, {api.OpMul, least, 1, least, 0}, {api.OpMul, 1, least, least, 0}, {api.OpMul, least, -1, 0, api.ErrOver}, {api.OpMul, -1, least, 0, api.ErrOver}, {api.OpMul, least, 0, 0, 0}, {api.OpMul, 0, least, 0, 0}, {api.OpMul, 0, -1, 0, 0}, {api.OpMul, -1, 0, 0, 0}, {api.OpMul, greatest, -1, least + 1, 0}, {api.OpMul, -1, greatest, least + 1, 0}, {api.OpMul, least, 2, 0, api.ErrOver}, {api.OpMul, 2, least, 0, api.ErrOver}, {api.OpMul, least, least, 0, api.ErrOver}, {api.OpMul, greatest, greatest, 0, api.ErrOver}, {api.OpMul, 1 << 62, 2, 0, api.ErrOver}, {api.OpMul, 1 << 62, -2, least, 0}, {api.OpMul, -2, 1 << 62, least, 0}, {api.OpMul, -(1 << 62), 2, least, 0}, {api.OpMul, -(1 << 62), -2, 0, api.ErrOver}, {api.OpMul, 1 << 32, 1 << 32, 0, api.ErrOver}, {api.OpMul, 1 << 32, 1 << 31, 0, api.ErrOver}, {api.OpMul, 1 << 32, -(1 << 31), least, 0}, {api.OpMul, 3037000499, 3037000499, 9223372030926249001, 0}, {api.OpMul, 3037000500, 3037000500, 0, api.ErrOver},
		{api.OpDiv, 7, 2, 3, 0}, {api.OpDiv, -7, 2, -3, 0}, {api.OpDiv, 7, -2, -3, 0}, {api.OpDiv, -7, -2, 3, 0}, {api.OpDiv, 1, 2, 0, 0}, {api.OpDiv, -1, 2, 0, 0}, {api.OpDiv, 0, 5, 0, 0}, {api.OpDiv, 5, 0, 0, api.ErrZero}, {api.OpDiv, 0, 0, 0, api.ErrZero}, {api.OpDiv, least, 0, 0, api.ErrZero}, {api.OpDiv, least, -1, 0, api.ErrOver}, {api.OpDiv, least, 1, least, 0}, {api.OpDiv, greatest, -1, least + 1, 0}, {api.OpDiv, least + 1, -1, greatest, 0}, {api.OpDiv, least, least, 1, 0}, {api.OpDiv, greatest, least, 0, 0}, {api.OpDiv, least, greatest, -1, 0}, {api.OpDiv, least, 2, -(1 << 62), 0}, {api.OpDiv, 0, -1, 0, 0},
		{api.OpMod, 7, 4, 3, 0}, {api.OpMod, -7, 4, -3, 0}, {api.OpMod, 7, -4, 3, 0}, {api.OpMod, -7, -4, -3, 0}, {api.OpMod, 8, 4, 0, 0}, {api.OpMod, -8, 4, 0, 0}, {api.OpMod, 5, 0, 0, api.ErrZero}, {api.OpMod, 0, 0, 0, api.ErrZero}, {api.OpMod, least, 0, 0, api.ErrZero}, {api.OpMod, least, -1, 0, 0}, {api.OpMod, greatest, -1, 0, 0}, {api.OpMod, least, greatest, -1, 0}, {api.OpMod, greatest, least, greatest, 0}, {api.OpMod, least, least, 0, 0}, {api.OpMod, 5, -1, 0, 0},
	} {
		want := api.Value{}
		if c.e == api.OK {
			want = valueOf(c.want)
		}
		if v, e := Binary(c.op, valueOf(c.a), valueOf(c.b)); !alike(v, want) || e != c.e {
			t.Errorf("%d %s %d: %+v, %d; not %+v, %d", c.a, marks[c.op-1], c.b, v, e, want, c.e)
		}
	}
}

// Numbers of all lengths, and near the limits of what their product may be.
func TestRandomNumbers(t *testing.T) {
	r := newRand(1)
	over := 0
	for range 200000 {
		a, b := int(r.Uint64())>>r.IntN(64), int(r.Uint64())>>r.IntN(64)
		switch r.IntN(8) {
		case 0:
			if a != 0 {
				b = greatest/a + r.IntN(3) - 1
			}
		case 1:
			if a != 0 {
				b = least/a + r.IntN(3) - 1
			}
		case 2:
			b = greatest - a + r.IntN(3) - 1
		case 3:
			b = least - a + r.IntN(3) - 1
		}
		for op := 3; op < 14; op++ {
			wantBinary(t, op, valueOf(a), valueOf(b))
			if _, e := Binary(op, valueOf(a), valueOf(b)); e == api.ErrOver {
				over++
			}
		}
		if t.Failed() {
			return
		}
	}
	if over < 10000 {
		t.Errorf("too few were too great: %d", over)
	}
}

func TestTexts(t *testing.T) {
	for _, c := range []struct {
		a, b int
		e    api.Errno
	}{
		{0, 0, 0}, {0, 255, 0}, {255, 0, 0}, {256, 0, 0}, {0, 256, 0}, {255, 1, 0}, {1, 255, 0}, {128, 128, 0}, {127, 128, 0}, {257, 0, api.ErrSize}, {0, 257, api.ErrSize}, {256, 1, api.ErrSize}, {1, 256, api.ErrSize}, {128, 129, api.ErrSize}, {256, 256, api.ErrSize}, {255, 255, api.ErrSize}, {70000, 0, api.ErrSize}, {0, 70000, api.ErrSize},
	} {
		a, b := times("a", c.a), times("b", c.b)
		want := api.Value{}
		if c.e == api.OK {
			want = valueOf(a + b)
		}
		if v, e := Binary(api.OpAdd, valueOf(a), valueOf(b)); !alike(v, want) || e != c.e {
			t.Errorf("%d and %d bytes: %s, %d; not %d", c.a, c.b, shown(v), e, c.e)
		}
	}
	s := "state s: text; on h(x: text): int { set s = s + x; ret len(s); }"
	wantRows(t, []row{
		{s, in(times("z", 200)), in(times("y", 55)), 5, `"zzz".. 255 -> 255 / 5`},
		{s, in(times("z", 200)), in(times("y", 56)), 5, `"zzz".. 256 -> 256 / 5`},
		{s, in(times("z", 200)), in(times("y", 57)), 5, `"zzz".. 200 -> ErrSize / 5`},
		{s, in(times("z", 256)), in(""), 5, `"zzz".. 256 -> 256 / 5`},
		{s, in(times("z", 256)), in("\x00"), 5, `"zzz".. 256 -> ErrSize / 5`},
		{s, in("\xff\x00"), in("\x80"), 5, `"\xff\x00\x80" -> 3 / 5`},
	})
}

func TestCompared(t *testing.T) {
	for _, c := range []struct {
		a, b any
		want string // of == != < <= > >=
	}{
		{1, 1, "+--+-+"}, {1, 2, "-+++--"}, {2, 1, "-+--++"}, {least, greatest, "-+++--"}, {greatest, least, "-+--++"}, {-1, 0, "-+++--"}, {least, least, "+--+-+"},
		{"", "", "+--+-+"}, {"", "a", "-+++--"}, {"a", "", "-+--++"}, {"a", "b", "-+++--"}, {"a", "ab", "-+++--"}, {"b", "ab", "-+--++"}, {"Z", "a", "-+++--"}, {"\x7f", "\x80", "-+++--"}, {"\xff", "a", "-+--++"}, {"10", "9", "-+++--"},
		{true, true, "+-????"}, {true, false, "-+????"}, {false, true, "-+????"}, {list{1}, list{1}, "+-????"}, {list{1}, list{2}, "-+????"}, {list{}, list{1}, "-+????"}, {dict{1: 2}, dict{1: 2}, "+-????"}, {dict{1: 2}, dict{1: 3}, "-+????"}, {dict{}, list{}, "-+????"},
		{1, true, "-+????"}, {0, false, "-+????"}, {1, "1", "-+????"}, {"", list{}, "-+????"}, {list{}, 0, "-+????"},
	} {
		got := ""
		for op := api.OpEq; op <= api.OpGe; op++ {
			v, e := Binary(op, valueOf(c.a), valueOf(c.b))
			switch {
			case e == api.ErrCode && alike(v, api.Value{}):
				got += "?"
			case e == api.OK && alike(v, valueOf(true)):
				got += "+"
			case e == api.OK && alike(v, valueOf(false)):
				got += "-"
			}
		}
		if got != c.want {
			t.Errorf("%v and %v: %s; not %s", c.a, c.b, got, c.want)
		}
	}
}

func TestNegAndStr(t *testing.T) {
	for n, want := range map[int]string{0: "0", 1: "1", -1: "-1", 9: "9", 10: "10", -10: "-10", 99: "99", 100: "100", greatest: "9223372036854775807", least: "-9223372036854775808", least + 1: "-9223372036854775807", 1 << 32: "4294967296", -1 << 31: "-2147483648"} {
		if v, e := Str(valueOf(n)); !alike(v, valueOf(want)) || e != api.OK {
			t.Errorf("Str of %d: %s, %d", n, shown(v), e)
		}
		v, e := Neg(valueOf(n))
		minus := new(big.Int).Neg(big.NewInt(int64(n)))
		if n == least {
			if !alike(v, api.Value{}) || e != api.ErrOver {
				t.Errorf("Neg of %d: %s, %d", n, shown(v), e)
			}
		} else if !alike(v, valueOf(int(minus.Int64()))) || e != api.OK {
			t.Errorf("Neg of %d: %s, %d", n, shown(v), e)
		}
	}
	for _, x := range strange() {
		if x.Kind == 1 {
			continue
		}
		if v, e := Neg(x); !alike(v, api.Value{}) || e != api.ErrCode {
			t.Errorf("Neg of %s: %s, %d", shown(x), shown(v), e)
		}
		if v, e := Str(x); !alike(v, api.Value{}) || e != api.ErrCode {
			t.Errorf("Str of %s: %s, %d", shown(x), shown(v), e)
		}
	}
}

// States and commands.

var allKinds = "state a: int; state b: bool; state c: text; state d: [int]; state e: {int:text}; state f: {text:[[bool]]}; on h(): int {}"

func TestZero(t *testing.T) {
	_, p := loaded(t, allKinds)
	if z := Zero(p); !sameAll(z, valuesOf(0, false, "", list{}, dict{}, dict{})) || !State(p, z) {
		t.Errorf("%+v", z)
	}
	_, p = loaded(t, "on h(): int {}")
	if z := Zero(p); len(z) != 0 || !State(p, z) || !State(p, nil) || !State(p, []api.Value{}) {
		t.Errorf("%+v", z)
	}
	_, p = loaded(t, "state a: text; state b: text;")
	if z := Zero(p); !sameAll(z, valuesOf("", "")) {
		t.Errorf("%+v", z)
	}
	// Of programs that no check answers: a type that is none has the value without a kind, and no value is one of it.
	p = api.Prog{States: []api.Slot{{Type: "[text]"}, {Type: "num"}, {}, {Type: "[[[[int]]]]"}, {Name: "9", Type: "int"}}}
	z := Zero(p)
	if !sameAll(z, []api.Value{valueOf(list{}), {}, {}, {}, valueOf(0)}) || State(p, z) {
		t.Errorf("%+v", z)
	}
	many := api.Prog{States: slices.Repeat([]api.Slot{{Type: "bool"}}, 100)}
	if z := Zero(many); !sameAll(z, slices.Repeat(valuesOf(false), 100)) || !State(many, z) || State(many, z[1:]) {
		t.Errorf("%+v", z)
	}
}

func TestState(t *testing.T) {
	read, p := loaded(t, allKinds)
	right := in(-5, true, "text", list{1, 2}, dict{1: "a", 2: ""}, dict{"": list{list{true}}})
	bad := func(i int, x any) []api.Value {
		l := slices.Clone(right)
		l[i] = x
		return valuesOf(l...)
	}
	falling := valuesOf(right...)
	falling[4].List = valuesOf(2, "", 1, "a")
	twice := valuesOf(right...)
	twice[4].List = valuesOf(1, "", 1, "a")
	odd := valuesOf(right...)
	odd[1].Num = 2
	extra := valuesOf(right...)
	extra[0].Text = "x"
	none := valuesOf(right...)
	none[3] = api.Value{}
	for i, c := range []struct {
		states []api.Value
		want   bool
	}{
		{valuesOf(right...), true}, {Zero(p), true}, {bad(0, greatest), true}, {bad(2, times("z", 256)), true}, {bad(3, filled(64, 1)), true}, {bad(4, counted(64, "")), true},
		{nil, false}, {valuesOf(right[:5]...), false}, {valuesOf(right[1:]...), false}, {valuesOf(append(slices.Clone(right), 1)...), false}, {valuesOf(append(slices.Clone(right), dict{})...), false},
		{bad(0, true), false}, {bad(0, "5"), false}, {bad(1, 1), false}, {bad(2, 0), false}, {bad(2, times("z", 257)), false}, {bad(3, list{true}), false}, {bad(3, list{1, "a"}), false}, {bad(3, dict{}), false}, {bad(3, filled(65, 1)), false}, {bad(4, dict{"a": "b"}), false}, {bad(4, dict{1: 1}), false}, {bad(4, counted(65, "")), false}, {bad(4, list{}), false}, {bad(5, dict{"": list{true}}), false},
		{bad(5, dict{"a": filled(64, filled(64, true)), "b": filled(64, filled(64, true)), "c": filled(64, filled(64, true)), "d": filled(64, filled(64, true))}), false},
		{falling, false}, {twice, false}, {odd, false}, {extra, false}, {none, false}, {make([]api.Value, 6), false},
	} {
		if State(p, c.states) != c.want {
			t.Errorf("%d: %s: not %v", i, shownAll(c.states), c.want)
		}
		// ErrState goes ahead of ErrCommand.
		for _, cmd := range []api.Command{command("h"), command("none"), command("h", 1), {}} {
			out, o := look(t, read, p, c.states, cmd, 9)
			if c.want == (o.Err == api.ErrState) || !c.want && (o.Fuel != 0 || len(out) != 0) {
				t.Errorf("%d: %s", i, told(out, o))
			}
		}
	}
}

func TestHandler(t *testing.T) {
	s := "state n: int; fn f(): int { ret 1; } on none(): int { ret f(); } fn g(x: int): int { ret x; } on one(x: int): int { ret 11; } on two(x: text, y: [bool]): int { ret 12; } on eight(a: int, b: int, c: int, d: int, e: int, f1: int, g1: int, h: bool): int { ret 13; }"
	read, p := loaded(t, s)
	for _, c := range []struct {
		c    api.Command
		want int
	}{
		{command("none"), 1}, {command("one", 5), 3}, {command("one", least), 3}, {command("two", "", list{}), 4}, {command("two", times("z", 256), filled(64, true)), 4}, {command("eight", 1, 2, 3, 4, 5, 6, 7, true), 5},
		{api.Command{Name: "none", Args: []api.Value{}}, 1},
		{command(""), -1}, {command("f"), -1}, {command("g", 1), -1}, {command("n"), -1}, {command("None"), -1}, {command("non"), -1}, {command("nonee"), -1}, {command("none "), -1}, {command("ones", 1), -1},
		{command("none", 1), -1}, {command("one"), -1}, {command("one", 1, 2), -1}, {command("two"), -1}, {command("two", ""), -1}, {command("two", "", list{}, 1), -1}, {command("eight", 1, 2, 3, 4, 5, 6, 7), -1}, {command("eight", 1, 2, 3, 4, 5, 6, 7, true, true), -1},
		{command("one", true), -1}, {command("one", "1"), -1}, {command("one", list{1}), -1}, {command("two", list{}, ""), -1}, {command("two", "", list{1}), -1}, {command("two", "", list{true, 1}), -1}, {command("two", "", dict{}), -1}, {command("two", times("z", 257), list{}), -1}, {command("two", "", filled(65, true)), -1}, {command("eight", 1, 2, 3, 4, 5, 6, 7, 8), -1}, {command("eight", true, 2, 3, 4, 5, 6, 7, true), -1},
		{api.Command{Name: "one", Args: []api.Value{{}}}, -1}, {api.Command{Name: "one", Args: []api.Value{{Kind: 1, Text: "x"}}}, -1}, {api.Command{Name: "one", Args: []api.Value{{Kind: 7}}}, -1},
	} {
		if n := Handler(p, c.c); n != c.want {
			t.Errorf("%s(%s): %d, not %d", c.c.Name, shownAll(c.c.Args), n, c.want)
		}
		out, o := look(t, read, p, valuesOf(4), c.c, 9)
		if (o.Err == api.ErrCommand) != (c.want < 0) || !sameAll(out, valuesOf(4)) || c.want < 0 && o.Fuel != 9 || c.want > 1 && o.Value.Num != 8+c.want {
			t.Errorf("%s(%s): %s", c.c.Name, shownAll(c.c.Args), told(out, o))
		}
	}
	if n := Handler(api.Prog{}, api.Command{}); n != -1 {
		t.Error(n)
	}
}

// Of programs that no check answers: the first handler that fits, whatever else there is.
func TestHandlerOfOthers(t *testing.T) {
	on := func(name string, is bool, params ...string) api.Fn {
		f := api.Fn{Name: name, On: is}
		for _, s := range params {
			f.Params = append(f.Params, api.Slot{Type: s})
		}
		return f
	}
	p := api.Prog{Fns: []api.Fn{on("a", false), on("a", true, "int"), on("a", true), on("a", true), on("a", true, "text"), on("a", true, "int"), on("", true), on("b", true, "num"), on("b", true, ""), on("c", true, "int", "int", "int", "int", "int", "int", "int", "int", "int")}}
	for _, c := range []struct {
		c    api.Command
		want int
	}{
		{command("a"), 2}, {command("a", 1), 1}, {command("a", ""), 4}, {command("a", true), -1}, {command(""), 6}, {command("b", 1), -1}, {api.Command{Name: "b", Args: []api.Value{{}}}, -1}, {command("b"), -1}, {command("c", 1, 2, 3, 4, 5, 6, 7, 8, 9), 9},
	} {
		if n := Handler(p, c.c); n != c.want {
			t.Errorf("%s(%s): %d, not %d", c.c.Name, shownAll(c.c.Args), n, c.want)
		}
	}
}
