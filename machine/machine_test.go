package machine

import (
	"bytes"
	"encoding/hex"
	"fmt"
	"slices"
	"strings"
	"testing"

	"quern/api"
	"quern/lex"
	"quern/sem"
	"quern/value"
)

const adder = "version 1; state n: int; on add(x: int): int { set n = n + x; ret n; }"

// The examples: of the chapter, and the first ones of the whole.

func TestExamples(t *testing.T) {
	_, m := loaded(t, adder)
	b, e := m.Encode(command("add(5)"))
	if e != api.OK || !bytes.Equal(b, []byte{3, 0x61, 0x64, 0x64, 2, 0, 5}) {
		t.Errorf("Encode: %.100x, %d", b, e)
	}
	for _, c := range []struct {
		states, hex string
		fuel        int
		want        string
	}{
		{"0", "03616464020005", 9, "5 -> 5 / 9"},
		{"0", "03616464020005", 4096, "5 -> 5 / 4096"},
		{"5", "03616464020005", 4096, "10 -> 10 / 4096"},
		{"5", "036164640a00ffffffffffffffff7f", 4096, "5 -> ErrOver / 4096"},
		{"5", "036164640a01ffffffffffffffff7f", 4096, "-9223372036854775803 -> -9223372036854775803 / 4096"},
		{"-1", "036164640a01ffffffffffffffff7f", 4096, "-1 -> ErrOver / 4096"},
	} {
		b, _ := hex.DecodeString(c.hex)
		if got := told(m.Apply(all(c.states), b, c.fuel)); got != c.want {
			t.Errorf("%s of %s: %s; not %s", c.hex, c.states, got, c.want)
		}
	}
	if got := told(m.Call(m.Zero(), command("add(5)"), 4096)); got != "5 -> 5 / 4096" {
		t.Error(got)
	}
	_, m = loaded(t, "version 1; state n: int; on add(x: int): int { for i to 5000 { set n = n + 1; } }")
	if got := told(m.Call(m.Zero(), command("add(5)"), greatest)); got != "0 -> ErrFuel / 0" {
		t.Error(got)
	}
}

// Texts at fault: an @ stands ahead of what is.

func TestFaults(t *testing.T) {
	states, fns, params := "", "", ""
	for i := range 32 {
		states += fmt.Sprintf("state s%d: int; ", i)
		fns += fmt.Sprintf("fn f%d(): int {} ", i)
	}
	for i := range 8 {
		params += fmt.Sprintf("p%d: int, ", i)
	}
	body := func(s string) string { return "version 1; state n: int; on f(x: int): int { " + s + " }" }
	deep := func(n int) string { return body("ret " + strings.Repeat("(", n) + "@1" + strings.Repeat(")", n) + ";") }
	for _, c := range []struct {
		src  string
		want api.Errno
	}{
		// the tokens
		{"version 1; @$", api.ErrToken}, {body("ret 1 @& 2;"), api.ErrToken}, {body("ret @07;"), api.ErrToken}, {body(`let s = @"a;`), api.ErrToken}, {body("let s = \"a@\x00\";"), api.ErrToken}, {body(`let s = "a@\n";`), api.ErrToken}, {"@\xff", api.ErrToken},
		{"version 1; state @abcdefghijklmnopq: int;", api.ErrLong}, {body("ret @9223372036854775808;"), api.ErrLong}, {body(`let s = @"` + strings.Repeat("a", 257) + `";`), api.ErrLong},
		{"version 1; " + strings.Repeat(" ", 16384-11) + "@ ", api.ErrLong}, {strings.Repeat("$", 16384) + "@$", api.ErrLong},
		{"version 1; " + strings.Repeat("; ", 4096-3) + "@;", api.ErrMany}, {"version 1; " + strings.Repeat("; ", 4096-3) + "@", api.ErrMany},
		// of which the first one counts, wherever the grammar has its own
		{"version version 1; state 7 @$", api.ErrToken}, {body("ret 1 +; } on f(): int { let s = @07"), api.ErrToken},
		// the grammar
		{"@", api.ErrSyntax}, {"@ver 1;", api.ErrSyntax}, {"version@;", api.ErrSyntax}, {"version @n;", api.ErrSyntax}, {"version 1@", api.ErrSyntax}, {"version 1; @ret 1;", api.ErrSyntax}, {"version 1; state @int: int;", api.ErrSyntax}, {"version 1; state m: {@bool:int};", api.ErrSyntax}, {"version 1; state n: @num;", api.ErrSyntax},
		{body("ret 1 < 2 @< 3;"), api.ErrSyntax}, {body("ret 1 + @;"), api.ErrSyntax}, {body("ret 1")[:49] + "@}", api.ErrSyntax}, {body("ret 1 @else {}"), api.ErrSyntax}, {body("@n = 1;"), api.ErrSyntax}, {body("") + "@}", api.ErrSyntax}, {body("") + " @version 2;", api.ErrSyntax}, {"version 1; on f(@", api.ErrSyntax},
		{"version 1; state l: [[[[@int]]]];", api.ErrDeep}, {deep(23), api.ErrDeep}, {body("ret " + strings.Repeat("-", 23) + "@1;"), api.ErrDeep},
		// of which the first one counts, wherever names and types have their own
		{"version 0; state n: int; state n: bool; on f(): int { ret m; } @x", api.ErrSyntax}, {body("ret true; ret 1 @1;"), api.ErrSyntax},
		// the names and the types
		{"@version 0;", api.ErrVersion}, {"@version 1099511627777; state n: int; state n: int;", api.ErrVersion},
		{"version 1; state n: int; state @n: bool;", api.ErrTwice}, {"version 1; state @len: int;", api.ErrTwice}, {"version 1; state n: int; on @n(): int {}", api.ErrTwice}, {"version 1; fn f(): int {} on @f(): int {}", api.ErrTwice}, {"version 1; on f(x: int, @x: int): int {}", api.ErrTwice}, {body("@let n = 1;"), api.ErrTwice}, {body("@let x = 1;"), api.ErrTwice}, {body("@for f to 1 {}"), api.ErrTwice},
		{"version 1; " + states + "state @n: int;", api.ErrMany}, {"version 1; " + fns + "on @g(): int {}", api.ErrMany}, {"version 1; on f(" + params + "@q: int): int {}", api.ErrMany}, {body(strings.Repeat("if true { let a = 1; } ", 31) + "@let b = 1;"), api.ErrMany},
		{strings.Replace(adder, "+ x", "+ @y", 1), api.ErrName}, {body("@set m = 1;"), api.ErrName}, {body("ret @g();"), api.ErrName}, {body("ret @f(1);"), api.ErrName}, {body("if true { let a = 1; } ret @a;"), api.ErrName}, {"version 1; fn f(): int { ret @g(); } fn g(): int {}", api.ErrName}, {"version 1; on g(): int {} fn f(): int { ret @g(); }", api.ErrName},
		{body("for i to 1 { @set i = 2; }"), api.ErrPlace}, {body("@set f = 1;"), api.ErrPlace}, {body("@del f[1];"), api.ErrPlace},
		{strings.Replace(adder, "ret n", "ret @true", 1), api.ErrType}, {"version 1; on f(): int { ret @true; }", api.ErrType}, {body("ret 1 @+ true;"), api.ErrType}, {body("if @1 {}"), api.ErrType}, {body("for i to @true {}"), api.ErrType}, {body("set n = @true;"), api.ErrType}, {body("@set n[1] = 2;"), api.ErrType}, {body("ret n@[1];"), api.ErrType}, {body("ret len(@1);"), api.ErrType}, {body("ret @len();"), api.ErrType}, {"version 1; fn f(x: int): int {} on g(): int { ret @f(); }", api.ErrType}, {"version 1; fn f(x: int): int {} on g(): int { ret f(@true); }", api.ErrType},
		// also where it would be left out, or never done
		{body("if false { ret @true; }"), api.ErrType}, {body("ret 1; ret @true;"), api.ErrType}, {body("for i to 0 { set n = @m; }"), api.ErrName}, {body("if true || 1 @+ true == 2 {}"), api.ErrType}, {"version 1; fn f(): int { ret @true; }", api.ErrType},
	} {
		at := strings.Index(c.src, "@")
		src := strings.Replace(c.src, "@", "", 1)
		if c.want == api.ErrVersion {
			at = 0
		}
		if m, place, e := Load(src); m != nil || place != at || e != c.want {
			t.Errorf("%.200s: %v, %d, %d; not %d at %d", src, m != nil, place, e, c.want, at)
		}
		if _, place, e := checked(src); place != at || e != c.want {
			t.Errorf("%.200s: layers 7 and 10 say %d at %d", src, e, place)
		}
	}
}

// Texts that are right, at the limits too.
func TestRight(t *testing.T) {
	states, fns, params, ands := "", "", "", "true"
	for i := range 32 {
		states += fmt.Sprintf("state s%d: {text:[[int]]}; ", i)
		fns += fmt.Sprintf("on f%d(): int { ret %d; } ", i, i)
	}
	for i := range 8 {
		params += fmt.Sprintf(", p%d: int", i)
	}
	for range 1900 {
		ands += " && b"
	}
	for _, src := range []string{
		"version 1;", "version 1099511627776;", "# a note\nversion\t1 ; # the end", "version 1;on f():int{ret 1;}state n:int;", adder,
		"version 1; " + states, "version 1; " + fns, "version 1; " + states + fns, "version 1; on f(" + params[2:] + "): int { ret p7; }",
		"version 1; state abcdefghijklmnop: int;", "version 1; state l: [[[int]]];", "version 1; state l: {int:{text:{int:bool}}};",
		"version 1; on f(): int { ret " + strings.Repeat("(", 22) + "1" + strings.Repeat(")", 22) + "; }", "version 1; on f(): int { ret " + strings.Repeat("-", 22) + "1; }",
		"version 1; on f(b: bool): bool { ret " + ands + "; }", "version 1; on f(b: bool): bool { ret b || " + strings.ReplaceAll(ands, "&&", "||") + "; }",
		"version 1; on f(): text { ret \"" + strings.Repeat("a", 256) + "\"; }", "version 1; on f(): int { ret 9223372036854775807; }",
		"version 1; on f(): int { " + strings.Repeat("for i to 1 { } ", 31) + "}", "version 1; on f(n: int): int { " + strings.Repeat("set n = n; ", 800) + "}",
		"version 1; on f(m: {int:int}): int { " + strings.Repeat("del m[1];", 650) + "}", "version 1; on f(m: {int:int}): int { " + strings.Repeat("set m[1]=2;", 500) + "}",
	} {
		p, m := loaded(t, src)
		if m.Version() != p.Version {
			t.Errorf("%.200s: version %d", src, m.Version())
		}
		for _, f := range p.Fns {
			c := api.Command{Name: f.Name}
			for _, x := range f.Params {
				c.Args = append(c.Args, value.Zero(x.Type))
			}
			wantSame(t, src, p, m, m.Zero(), c, 99)
		}
	}
	for _, src := range []string{"version 1; " + strings.Repeat(" ", 16384-11), "version 1;#" + strings.Repeat("\xff", 16384-11), adder + strings.Repeat("\n", 16384-len(adder))} {
		if len(src) != 16384 {
			t.Fatal(len(src))
		}
		loaded(t, src)
	}
	for n, want := range map[int]api.Errno{4095: api.OK, 4096: api.OK, 4097: api.ErrMany} {
		odd := n % 2
		src := "version 1; on f(n: int): int { ret 1" + strings.Repeat(" + 1", (n-18-3*odd)/2) + strings.Repeat(" + -1", odd) + "; }"
		if tokens, _, _ := lex.Lex(src); want == api.OK && len(tokens) != n {
			t.Fatal(len(tokens), n)
		}
		if m, _, e := Load(src); (m != nil) != (want == api.OK) || e != want {
			t.Errorf("%d tokens: %d", n, e)
		}
	}
}

// What a machine tells of itself.

func TestHeads(t *testing.T) {
	heavy := list(append(slices.Repeat(values(long(256)), 63), long(191))...) // as heavy as may be
	for _, c := range []struct {
		src      string
		version  int
		states   string
		fit      [][]api.Value // the first one is the first state
		unfit    [][]api.Value
		has, not []string
	}{
		{
			"version 1;", 1, "", [][]api.Value{nil, {}}, [][]api.Value{all("0"), all("0, 0"), {{}}},
			nil, []string{"", "f", "version", "len", "f int"},
		},
		{
			adder, 1, "n: int", [][]api.Value{all("0"), all("5"), values(number(least)), values(number(greatest))},
			[][]api.Value{nil, {}, all("0, 0"), all("true"), all(`"0"`), all("[0]"), all("{}"), {{}}, {{Kind: 1, Text: "a"}}, {{Kind: 1, List: all("1")}}, {{Kind: 6}}},
			[]string{"add int"}, []string{"add", "add int int", "add bool", "add text", "add Int", "add [int]", "add n", "", "int", "n", "n int", "ad int", "addd int", "Add int", "len int", "str int"},
		},
		{
			"version 1099511627776; state b: bool; state t: text; state l: [text]; fn help(x: int): int { ret x; } state m: {text:int}; on put(k: text, v: int): int { set m[k] = v; ret help(len(m)); } on none(): bool {} on last(x: [text], y: {int:[bool]}, z: int): int {}",
			1 << 40, "b: bool, t: text, l: [text], m: {text:int}",
			[][]api.Value{all(`false, "", [], {}`), all(`true, "a", ["a", "a"], {"": 1, "a": 2, "b": 1}`), values(all("true")[0], long(256), heavy, all("{}")[0])},
			[][]api.Value{
				nil, all("false"), all(`false, "", []`), all(`false, "", [], {}, 0`), all(`false, "", [], {}, {}`), all(`"", false, [], {}`), all(`false, "", {}, []`), all(`0, "", [], {}`), all(`false, "", [1], {}`), all(`false, "", [["a"]], {}`), all(`false, "", [], {1: 1}`), all(`false, "", [], {"a": "a"}`),
				all(`false, "", [], {"b": 1, "a": 2}`), all(`false, "", [], {"a": 1, "a": 2}`), all(`false, "", [], {"a"}`), {{Kind: 2, Num: 2}, word(""), list(), {Kind: 5}},
				values(all("true")[0], long(257), list(), all("{}")[0]), values(all("true")[0], word(""), list(append(heavy.List[:63:63], long(192))...), all("{}")[0]), values(all("true")[0], word(""), list(slices.Repeat(all(`""`), 65)...), all("{}")[0]),
			},
			[]string{"put text int", "none", "last [text] {int:[bool]} int"},
			[]string{"put", "put text", "put int text", "put text int int", "put text text", "put int int", "put text  int", "none bool", "none ", "help int", "help", "last [text] {int:[bool]}", "last [text] int {int:[bool]}", "last {int:[bool]} [text] int", "last [text] {int: [bool]} int", "last [text] {int:[bool]} int int", "last", "b", "m", "m text int", "len text", "lastt", "las"},
		},
	} {
		p, m := loaded(t, c.src)
		var states []string
		for _, s := range m.States() {
			states = append(states, s.Name+": "+s.Type)
			if s.At != 0 {
				t.Errorf("%s: a place: %+v", c.src, s)
			}
		}
		if m.Version() != c.version || strings.Join(states, ", ") != c.states {
			t.Errorf("%s: %d; %s", c.src, m.Version(), states)
		}
		if !slices.Equal(m.States(), p.States) {
			t.Errorf("%s: %v; layer 10 says %v", c.src, m.States(), p.States)
		}
		if !allAlike(m.Zero(), c.fit[0]) || !allAlike(m.Zero(), sem.Zero(p)) {
			t.Errorf("%s: the first state: %s", c.src, shownAll(m.Zero()))
		}
		for i, l := range append(slices.Clone(c.fit), c.unfit...) {
			if want := i < len(c.fit); m.Fits(l) != want || sem.State(p, l) != want {
				t.Errorf("%s: %.200s fits: %v", c.src, shownAll(l), m.Fits(l))
			}
		}
		for i, s := range append(slices.Clone(c.has), c.not...) {
			words := strings.Split(s, " ")
			if want := i < len(c.has); m.Has(words[0], words[1:]...) != want {
				t.Errorf("%s: has %s: %v", c.src, s, m.Has(words[0], words[1:]...))
			}
		}
	}
}

// Each call of a nil machine.
func TestNil(t *testing.T) {
	var m *Machine
	if m.Version() != 0 || len(m.States()) != 0 || len(m.Zero()) != 0 {
		t.Errorf("%d, %v, %v", m.Version(), m.States(), m.Zero())
	}
	for _, l := range [][]api.Value{nil, {}, all("0"), all(`5, "a"`)} {
		if m.Fits(l) {
			t.Errorf("%s fits", shownAll(l))
		}
		for _, name := range []string{"", "add"} {
			c := api.Command{Name: name, Args: l}
			if m.Has(name) || m.Has(name, "int") || m.Has(name, "int", "text") {
				t.Errorf("it has %s", name)
			}
			if b, e := m.Encode(c); len(b) != 0 || e != api.ErrNil {
				t.Errorf("Encode: %.100x, %d", b, e)
			}
			for _, fuel := range []int{0, 1, 9, 4096, 5000, -1, least, greatest} {
				if got := told(m.Call(l, c, fuel)); got != "-> ErrNil / 0" {
					t.Errorf("Call: %s", got)
				}
				if got := told(m.Apply(l, []byte{3, 'a', 'd', 'd', 2, 0, 5}, fuel)); got != "-> ErrNil / 0" {
					t.Errorf("Apply: %s", got)
				}
				if got := told(m.Apply(l, nil, fuel)); got != "-> ErrNil / 0" {
					t.Errorf("Apply: %s", got)
				}
			}
		}
	}
	for _, b := range [][]byte{nil, {}, {0}, {3, 'a', 'd', 'd', 2, 0, 5}} {
		if c, e := m.Decode(b); c.Name != "" || len(c.Args) != 0 || e != api.ErrNil {
			t.Errorf("Decode: %+v, %d", c, e)
		}
	}
}

// Commands and their bytes.

// wide has handlers of all sorts, and a function, a state and a handler of alike names.
const wide = "version 7; state n: int; fn plus(x: int): int { ret x; } on add(x: int): int { set n = plus(n + x); ret n; } on put(k: text, v: int): int { ret len(k) + v; } on none(): bool {} " +
	"on many(p: bool, q: text, r: [int], s: {int:[text]}, t: [[bool]], u: int, v: {text:text}, w: int): int { ret w; } on a(x: bool): bool { ret x; } on abcdefghijklmnop(l: [text]): int { ret len(l); }"

// wantBytes asks that a command has these bytes (a blank between may help to read them), there and back.
func wantBytes(t *testing.T, p api.Prog, m *Machine, c api.Command, want string) {
	t.Helper()
	b, e := m.Encode(c)
	if got := hex.EncodeToString(b); got != strings.ReplaceAll(want, " ", "") || e != api.OK {
		t.Errorf("%s(%.200s): %.200s, %d; not %.200s", c.Name, shownAll(c.Args), got, e, want)
	}
	if plain, e := plainEncode(p, c); !bytes.Equal(b, plain) || e != api.OK {
		t.Errorf("%s(%.200s): %.100x; the plain one says %.100x, %d", c.Name, shownAll(c.Args), b, plain, e)
	}
	if back, e := m.Decode(b); !sameCommand(back, c) || e != api.OK {
		t.Errorf("%.100x: %s(%.200s), %d", b, back.Name, shownAll(back.Args), e)
	}
}

func TestBytes(t *testing.T) {
	p, m := loaded(t, wide)
	for s, want := range map[string]string{
		"add(5)": "03 616464 02 0005", "add(0)": "03 616464 02 0000", "add(-1)": "03 616464 02 0100", "add(127)": "03 616464 02 007f", "add(128)": "03 616464 03 008001", "add(-129)": "03 616464 03 018001", "add(300)": "03 616464 03 00ac02",
		"add(9223372036854775807)": "03 616464 0a 00ffffffffffffffff7f", "add(-9223372036854775808)": "03 616464 0a 01ffffffffffffffff7f",
		`put("", 1)`: "03 707574 01 00 02 0001", `put("a", -2)`: "03 707574 02 0161 02 0101", `put("put", 3)`: "03 707574 04 03707574 02 0003",
		"none()": "04 6e6f6e65", "a(true)": "01 61 01 01", "a(false)": "01 61 01 00", "abcdefghijklmnop([])": "10 6162636465666768696a6b6c6d6e6f70 01 00",
		`many(true, "ab", [1, -1], {-1: ["x", ""], 2: []}, [[], [true, false]], 7, {"": "v", "k": ""}, 0)`: "04 6d616e79 01 01 03 026162 05 0200010100 0a 02 0100 020178 00 0002 00 05 02 00 020100 02 0007 07 02 00 0176 016b 00 02 0000",
	} {
		wantBytes(t, p, m, command(s), want)
	}
	for n, want := range map[int]string{126: "7f 7e", 127: "8001 7f", 128: "8201 8001", 256: "8202 8002"} {
		wantBytes(t, p, m, api.Command{Name: "put", Args: values(long(n), number(0))}, "03 707574 "+want+strings.Repeat("74", n)+" 02 0000")
	}
	heavy := list(append(slices.Repeat(values(long(256)), 63), long(191))...)
	wantBytes(t, p, m, api.Command{Name: "abcdefghijklmnop", Args: values(heavy)}, "10 6162636465666768696a6b6c6d6e6f70 c08001 40"+strings.Repeat("8002"+strings.Repeat("74", 256), 63)+"bf01"+strings.Repeat("74", 191))
}

// What Encode doesn't take.
func TestNoHandler(t *testing.T) {
	p, m := loaded(t, wide)
	right := `many(true, "ab", [1, -1], {-1: ["x", ""], 2: []}, [[], [true, false]], 7, {"": "v", "k": ""}, 0)`
	l := []api.Command{{}, {Name: "add"}, {Name: "add", Args: all("5, 5")}, {Name: "put", Args: all(`"a"`)}}
	for _, s := range []string{
		"(5)", "sub(5)", "ad(5)", "addd(5)", "Add(5)", "add (5)", "plus(5)", "n()", "n(5)", "len([])", "str(5)", "none(false)", "none(0)",
		"add(true)", `add("5")`, "add([5])", "add({})", `put(1, "a")`, `put("a", 1, 1)`, `put("a", true)`, "a()", "a(0)", "a(1)", "abcdefghijklmno([])", "abcdefghijklmnopq([])", "abcdefghijklmnop([5])",
		strings.Replace(right, "true", "0", 1), strings.Replace(right, `"ab"`, "[]", 1), strings.Replace(right, "[1, -1]", "[1, true]", 1), strings.Replace(right, "-1: ", "3: ", 1), strings.Replace(right, "-1: ", "2: ", 1), strings.Replace(right, "-1: ", `"a": `, 1),
		strings.Replace(right, "[[], ", "[[0], ", 1), strings.Replace(right, "7", "true", 1), strings.Replace(right, `"k": ""`, `"k": 1`, 1), strings.Replace(right, ", 0)", ")", 1), strings.Replace(right, ", 0)", ", 0, 0)", 1), strings.Replace(right, ", 0)", `, "")`, 1),
	} {
		l = append(l, command(s))
	}
	for _, v := range []api.Value{{}, {Kind: 6, Num: 1}, {Kind: -1}, {Kind: 1, Text: "a"}, {Kind: 1, List: all("1")}, {Kind: 2, Num: 1}, {Kind: 4, Num: 5}} {
		l = append(l, api.Command{Name: "add", Args: values(v)})
	}
	for _, v := range []api.Value{long(257), long(70000), {Kind: 3, Num: 1}, {Kind: 3, List: all("1")}} {
		l = append(l, api.Command{Name: "put", Args: values(v, number(1))})
	}
	for _, v := range []api.Value{{Kind: 2, Num: 2}, {Kind: 2, Num: -1}, {Kind: 2, Num: 1, Text: "a"}} {
		l = append(l, api.Command{Name: "a", Args: values(v)})
	}
	for _, v := range []api.Value{list(slices.Repeat(all(`""`), 65)...), list(slices.Repeat(values(long(256)), 64)...), {Kind: 4, Num: 1}, {Kind: 4, Text: "a"}} {
		l = append(l, api.Command{Name: "abcdefghijklmnop", Args: values(v)})
	}
	for _, c := range l {
		if b, e := m.Encode(c); len(b) != 0 || e != api.ErrCommand {
			t.Errorf("%s(%.200s): %.100x, %d", c.Name, shownAll(c.Args), b, e)
		}
		if _, e := plainEncode(p, c); e != api.ErrCommand {
			t.Errorf("%s(%.200s): the plain one says %d", c.Name, shownAll(c.Args), e)
		}
		for fuel, want := range map[int]int{0: 0, 9: 9, 4096: 4096, 4097: 4096, -1: 0, least: 0, greatest: 4096} {
			if got := told(m.Call(all("5"), c, fuel)); got != fmt.Sprintf("5 -> ErrCommand / %d", want) {
				t.Errorf("%s(%.200s): %s", c.Name, shownAll(c.Args), got)
			}
		}
	}
	if b, e := m.Encode(command(right)); len(b) == 0 || e != api.OK {
		t.Error("the right one:", e)
	}
}

// wantNone asks that bytes are no command's, for Apply too.
func wantNone(t *testing.T, m *Machine, b []byte) {
	t.Helper()
	if c, e := m.Decode(b); c.Name != "" || len(c.Args) != 0 || e != api.ErrCommand {
		t.Errorf("%.100x: %s(%.200s), %d", b, c.Name, shownAll(c.Args), e)
	}
	for fuel, want := range map[int]int{0: 0, 9: 9, 5000: 4096, -1: 0} {
		if got := told(m.Apply(all("5"), b, fuel)); got != fmt.Sprintf("5 -> ErrCommand / %d", want) {
			t.Errorf("%.100x: %s", b, got)
		}
	}
	if got := told(m.Apply(all("true"), b, 9)); got != "-> ErrState / 0" {
		t.Errorf("%.100x of no state: %s", b, got)
	}
}

// wantAsPlain asks what Decode answers, and that Encode makes the bytes of it; and tells whether it is a command.
func wantAsPlain(t *testing.T, p api.Prog, m *Machine, b []byte) bool {
	t.Helper()
	c, e := m.Decode(b)
	if want, wanted := plainDecode(p, b); !sameCommand(c, want) || e != wanted {
		t.Fatalf("%.100x: %s(%.200s), %d; not %s(%.200s), %d", b, c.Name, shownAll(c.Args), e, want.Name, shownAll(want.Args), wanted)
	}
	if e != api.OK {
		return false
	}
	if back, e := m.Encode(c); !bytes.Equal(back, b) || e != api.OK {
		t.Fatalf("%.100x: %s(%.200s): %.100x, %d", b, c.Name, shownAll(c.Args), back, e)
	}
	return true
}

// Bytes of commands, with something wrong with them.
func TestSpoiledBytes(t *testing.T) {
	p, m := loaded(t, wide)
	turned := map[bool]int{}
	for _, s := range []string{
		"none()", "add(5)", "add(-300)", "add(-9223372036854775808)", `put("", 1)`, `put("a key", -70000)`, "a(true)", "a(false)", "abcdefghijklmnop([])", `abcdefghijklmnop(["a", ""])`,
		`many(true, "ab", [1, -1], {-1: ["x", ""], 2: []}, [[], [true, false]], 7, {"": "v", "k": ""}, 0)`, `many(false, "", [], {}, [], 0, {}, 0)`,
	} {
		b, _ := m.Encode(command(s))
		for n := range b {
			wantNone(t, m, b[:n:n])
			wantNone(t, m, b[:n])
		}
		for x := range 256 {
			wantNone(t, m, append(slices.Clone(b), byte(x)))
		}
		wantNone(t, m, slices.Concat(b, b))
		for i := range b {
			for x := range 256 {
				other := slices.Clone(b)
				other[i] ^= byte(x)
				turned[wantAsPlain(t, p, m, other)]++
			}
			long := slices.Insert(slices.Clone(b), i+1, 0)
			long[i] |= 0x80
			if wantAsPlain(t, p, m, long) {
				t.Errorf("%.100x: it is a command", long)
			}
			wantAsPlain(t, p, m, slices.Delete(slices.Clone(b), i, i+1))
			wantAsPlain(t, p, m, slices.Insert(slices.Clone(b), i, 0))
			wantAsPlain(t, p, m, slices.Insert(slices.Clone(b), i, b[i]))
		}
	}
	if turned[true] < 500 || turned[false] < 500 {
		t.Error(turned)
	}
}

// Each number of a command's bytes in another form than the shortest, or another one than it must be.
func TestOtherNumbers(t *testing.T) {
	_, m := loaded(t, wide)
	for _, s := range []string{
		"", "00", "80", "8000", "ff", "ffffffffffffffff7f", "ffffffffffffffffff", "ffffffffffffffffff01", "80808080808080808000",
		"8300 616464 02 0005", "838000 616464 02 0005", "03 616464 8200 0005", "03 616464 828000 0005", "03 616464 03 00 8500", "03 616464 03 8000 05", "03 616464 03 8100 05", "03 616464 04 00 858000", // add(5), none of which is short
		"02 616464 02 0005", "04 616464 02 0005", "03 616464 00 0005", "03 616464 01 0005", "03 616464 03 0005", "03 616464 01 00", "03 616464 00", "03 616464 03 000500", "03 616464 04 00050005", "03 616464 02 0205", "03 616464 02 7f05", "03 616464 02 0005 00", "03 616464 02 0005 02 0005",
		"03 616464 ffffffffffffffff7f 0005", "ffffffffffffffff7f 616464 02 0005", "03 616464 0b 00ffffffffffffffffff01", "03 616464 0b 00ffffffffffffffffff00", "03 616464 0b 0080808080808080808001", // more than there can be
		"04 706c7573 02 0005", "01 6e", "01 6e 02 0005", "03 6c656e 01 00", "03 414444 02 0005", "00 02 0005", "03 616465 02 0005", // no handlers
		"01 61 01 02", "01 61 02 8100", "01 61 02 0100", "01 61 02 0001", "01 61 01 ff", "01 61 00", "01 61",
		"03 707574 02 0061 02 0001", "03 707574 02 0261 02 0001", "03 707574 03 810061 02 0001", "03 707574 01 01 02 0001", "03 707574 01 61 02 0001", "03 707574 02 0001 02 0161", "03 707574 04 0161 0001", // put("a", 1)
		"03 707574 8302 8102" + strings.Repeat("74", 257) + "02 0000", // put of a text that is too long
		"10 6162636465666768696a6b6c6d6e6f70 01 01", "10 6162636465666768696a6b6c6d6e6f70 02 8000", "10 6162636465666768696a6b6c6d6e6f70 42 41" + strings.Repeat("00", 65), "10 6162636465666768696a6b6c6d6e6f70 818101 40" + strings.Repeat("8002"+strings.Repeat("74", 256), 64),
		"04 6e6f6e65 00", "04 6e6f6e65 01 00", "04 6e6f6e", // none()
	} {
		b, err := hex.DecodeString(strings.ReplaceAll(s, " ", ""))
		if err != nil {
			t.Fatal(s, err)
		}
		wantNone(t, m, b)
	}
	// the keys of a map that don't rise, or stand there twice
	b, _ := m.Encode(command(`many(true, "ab", [1, -1], {-1: ["x", ""], 2: []}, [[], [true, false]], 7, {"": "v", "k": ""}, 0)`))
	for from, to := range map[string]string{"\x02\x01\x00\x02\x01x\x00\x00\x02\x00": "\x02\x00\x02\x02\x01x\x00\x00\x02\x00", "\x02\x00\x01v\x01k\x00": "\x02\x01k\x00\x00\x01v", "\x01\x00\x02\x01x": "\x00\x09\x02\x01x"} {
		if !bytes.Contains(b, []byte(from)) {
			t.Fatalf("%.100x has no %.100x", b, from)
		}
		wantNone(t, m, bytes.Replace(b, []byte(from), []byte(to), 1))
	}
}

// Calls.

const busy = `version 3; state n: int; state l: [int]; state m: {text:int};
fn twice(x: int): int { ret x * 2; }
on add(x: int): int { set n = n + x; ret n; }
on turns(k: int): int { for i to k { set n = n + 1; } ret n; }
on idle(k: int): int { set n = k; for i to 5 {} ret 1; }
on calls(): int { set n = twice(twice(n)); ret n; }
on both(x: int): int { set n = x; for i to 3 { set n = n + twice(i); } ret n; }
on zero(x: int): int { set l = push(l, x); set n = 9; ret 8 / x; }
on key(k: text): int { set n = 7; ret m[k]; }
on put(k: text, v: int): {text:int} { set m[k] = v; ret m; }
on drop(k: text): bool { let had = has(m, k); del m[k]; ret had; }
on double(s: text): text { set n = n + 1; ret s + s; }
on first(): {text:[int]} {}
on early(x: int): [int] { for i to x { set n = i; if i == 2 { ret push(l, i); } } ret l; }
on never(x: bool): int { if false { set n = 1 / 0; } if true || 1 / 0 == 1 { set n = 2 * 3; } ret n; set n = 5; }`

// wantCall asks what a call answers, that Apply of the command's bytes and layer 11 say so too.
func wantCall(t *testing.T, p api.Prog, m *Machine, states []api.Value, c api.Command, fuel int, want string) {
	t.Helper()
	if got := told(m.Call(states, c, fuel)); got != want {
		t.Errorf("%s(%s) of %s with %d: %s; not %s", c.Name, shownAll(c.Args), shownAll(states), fuel, got, want)
	}
	b, _ := m.Encode(c)
	if got := told(m.Apply(states, b, fuel)); got != want {
		t.Errorf("%s(%s) of %s with %d: Apply: %s; not %s", c.Name, shownAll(c.Args), shownAll(states), fuel, got, want)
	}
	if got := told(sem.Call(p, states, c, fuel)); got != want {
		t.Errorf("%s(%s) of %s with %d: layer 11: %s; not %s", c.Name, shownAll(c.Args), shownAll(states), fuel, got, want)
	}
}

func TestCalls(t *testing.T) {
	p, m := loaded(t, busy)
	for _, c := range []struct {
		states, command string
		spent           int // with that it is as with more, but for the fuel; with less it is ErrFuel
		want            string
	}{
		{"0, [], {}", "add(5)", 0, "5, [], {} -> 5"},
		{"5, [1], {}", "add(-7)", 0, "-2, [1], {} -> -2"},
		{"5, [], {}", "add(9223372036854775807)", 0, "ErrOver"},
		{"1, [], {}", "turns(3)", 3, "4, [], {} -> 4"},
		{"1, [], {}", "turns(0)", 0, "1, [], {} -> 1"},
		{"1, [], {}", "turns(-1)", 0, "1, [], {} -> 1"},
		{"1, [], {}", "turns(4096)", 4096, "4097, [], {} -> 4097"},
		{"1, [], {}", "turns(4097)", 4097, ""},
		{"9223372036854775806, [], {}", "turns(3)", 2, "ErrOver"},
		{"1, [], {}", "idle(3)", 5, "3, [], {} -> 1"},
		{"3, [], {}", "calls()", 2, "12, [], {} -> 12"},
		{"4611686018427387904, [], {}", "calls()", 1, "ErrOver"},
		{"3, [], {}", "both(1)", 6, "7, [], {} -> 7"},
		{"3, [], {}", "zero(2)", 0, "9, [2], {} -> 4"},
		{"3, [], {}", "zero(0)", 0, "ErrZero"},
		{`3, [], {"a": 1}`, `key("a")`, 0, `7, [], {"a": 1} -> 1`},
		{`3, [], {"a": 1}`, `key("b")`, 0, "ErrKey"},
		{`3, [], {"a": 1}`, `put("", 2)`, 0, `3, [], {"": 2, "a": 1} -> {"": 2, "a": 1}`},
		{`3, [], {"a": 1}`, `drop("a")`, 0, `3, [], {} -> true`},
		{`3, [], {"a": 1}`, `drop("b")`, 0, `3, [], {"a": 1} -> false`},
		{"3, [], {}", `double("ab")`, 0, `4, [], {} -> "abab"`},
		{"3, [], {}", `double("` + strings.Repeat("a", 129) + `")`, 0, "ErrSize"},
		{"3, [], {}", "first()", 0, "3, [], {} -> {}"},
		{"3, [4], {}", "early(5)", 3, "2, [4], {} -> [4, 2]"},
		{"3, [4], {}", "early(2)", 2, "1, [4], {} -> [4]"},
		{"3, [4], {}", "never(true)", 0, "6, [4], {} -> 6"},
	} {
		states, what := all(c.states), command(c.command)
		for _, fuel := range []int{c.spent, c.spent - 1, c.spent + 1, 0, 1, 2, 9, 4095, 4096, 4097, 5000, greatest, -1, -9, least} {
			counts := min(max(fuel, 0), 4096)
			want := fmt.Sprintf("%s / %d", c.want, counts-c.spent)
			if strings.HasPrefix(want, "Err") {
				want = c.states + " -> " + want
			}
			if counts < c.spent {
				want = c.states + " -> ErrFuel / 0"
			}
			wantCall(t, p, m, states, what, fuel, want)
		}
		for _, s := range []string{"", "0", "0, []", "0, [], {}, 0", "true, [], {}", "0, {}, []", "[], 0, {}", "0, [true], {}", "0, [], {1: 1}", `0, [], {"b": 1, "a": 2}`} {
			for _, fuel := range []int{0, 9, 5000, -1} {
				wantCall(t, p, m, all(s), what, fuel, "-> ErrState / 0")
			}
		}
	}
	wantCall(t, p, m, nil, command("sub(5)"), 9, "-> ErrState / 0") // ahead of the command
	wantCall(t, p, m, all("5, [], {}"), command("sub(5)"), 9, "5, [], {} -> ErrCommand / 9")
	wantCall(t, p, m, all("5, [], {}"), command("twice(5)"), 9, "5, [], {} -> ErrCommand / 9")
}

// From state to state, by commands and by their bytes.
func TestStateToState(t *testing.T) {
	p, m := loaded(t, busy)
	states := m.Zero()
	for _, c := range []struct {
		command string
		fuel    int
		want    string
	}{
		{"add(5)", 10, "5, [], {} -> 5 / 10"},
		{"turns(4)", 10, "9, [], {} -> 9 / 6"},
		{"turns(11)", 10, "9, [], {} -> ErrFuel / 0"},
		{`put("b", 1)`, 0, `9, [], {"b": 1} -> {"b": 1} / 0`},
		{`put("a", 2)`, -1, `9, [], {"a": 2, "b": 1} -> {"a": 2, "b": 1} / 0`},
		{"zero(0)", 3, `9, [], {"a": 2, "b": 1} -> ErrZero / 3`},
		{"zero(2)", 3, `9, [2], {"a": 2, "b": 1} -> 4 / 3`},
		{"sub(2)", 3, `9, [2], {"a": 2, "b": 1} -> ErrCommand / 3`},
		{`drop("a")`, 3, `9, [2], {"b": 1} -> true / 3`},
		{`key("a")`, 3, `9, [2], {"b": 1} -> ErrKey / 3`},
		{`key("b")`, 3, `7, [2], {"b": 1} -> 1 / 3`},
		{"early(9)", 9999, `2, [2], {"b": 1} -> [2, 2] / 4093`},
		{"calls()", 2, `8, [2], {"b": 1} -> 8 / 0`},
		{"calls()", 1, `8, [2], {"b": 1} -> ErrFuel / 0`},
	} {
		wantCall(t, p, m, states, command(c.command), c.fuel, c.want)
		b, _ := m.Encode(command(c.command))
		states, _ = m.Apply(states, b, c.fuel)
	}
}
