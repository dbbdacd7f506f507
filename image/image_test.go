package image

import (
	"bytes"
	"encoding/hex"
	"fmt"
	"slices"
	"strings"
	"testing"

	"quern/api"
	"quern/vm"
)

func unhex(s string) []byte {
	b, e := hex.DecodeString(strings.ReplaceAll(s, " ", ""))
	if e != nil {
		panic(s)
	}
	return b
}

// The examples: of the chapter, and of the whole.

func TestExamples(t *testing.T) {
	p := loaded(t, "version 1; state n: int;")
	if Schema(p.m) != "n: int;\n" || len(Schema(p.m)) != 8 {
		t.Errorf("%q", Schema(p.m))
	}
	want := unhex("01 08 6e 3a 20 69 6e 74 3b 0a 02 00 05")
	if b, e := Encode(p.m, all("5")); !bytes.Equal(b, want) || e != api.OK {
		t.Errorf("%x, %d", b, e)
	}
	if states, e := Decode(p.m, want); !allAlike(states, all("5")) || e != api.OK {
		t.Errorf("%s, %d", shownAll(states), e)
	}
	next := loaded(t, "version 2; state n: int; on upgrade(): int { set n = n * 10; ret n; }")
	if got := told(Migrate(p.m, all("5"), next.m, 4096)); got != "50 -> 50 / 4096" {
		t.Error(got)
	}
}

// Schemas.

func TestSchema(t *testing.T) {
	many, lines := "version 9;", ""
	for i := range 32 {
		many += fmt.Sprintf(" state s%d: {text:[[int]]};", i)
		lines += fmt.Sprintf("s%d: {text:[[int]]};\n", i)
	}
	for src, want := range map[string]string{
		"version 1;": "", "version 1; on f(x: int): int {}": "", "version 1; state n: int;": "n: int;\n", "version 7;state\tn:int;# a note": "n: int;\n",
		"version 1; state b: bool; state a: text;":                                        "b: bool;\na: text;\n",
		"version 1; state a: text; fn f(): int {} state b: bool; on g(x: int): text {}":   "a: text;\nb: bool;\n",
		"version 1; state l: [ [ [ int ] ] ]; state m: { text : { int : [ bool ] } };":    "l: [[[int]]];\nm: {text:{int:[bool]}};\n",
		"version 1; state abcdefghijklmnop: int; state _: {int:int}; state upgrade: int;": "abcdefghijklmnop: int;\n_: {int:int};\nupgrade: int;\n",
		many: lines,
	} {
		p := loaded(t, src)
		if got := Schema(p.m); got != want || got != plainSchema(p.Prog) {
			t.Errorf("%s: %q; not %q", src, got, want)
		}
	}
}

// Each call with a nil machine, in each place.
func TestNil(t *testing.T) {
	if s := Schema(nil); s != "" {
		t.Errorf("Schema: %q", s)
	}
	one, two := loaded(t, "version 1; state n: int;"), loaded(t, "version 2; state n: int; on upgrade(): int { ret n; }")
	for _, l := range [][]api.Value{nil, {}, all("5"), all("true"), all(`5, "a"`)} {
		if b, e := Encode(nil, l); len(b) != 0 || e != api.ErrNil {
			t.Errorf("Encode: %x, %d", b, e)
		}
		for _, fuel := range []int{least, -1, 0, 9, 4096, 5000, greatest} {
			for i, got := range []string{told(Migrate(nil, l, nil, fuel)), told(Migrate(nil, l, one.m, fuel)), told(Migrate(nil, l, two.m, fuel)), told(Migrate(one.m, l, nil, fuel)), told(Migrate(two.m, l, nil, fuel))} {
				if got != "-> ErrNil / 0" {
					t.Errorf("Migrate %d of %s: %s", i, shownAll(l), got)
				}
			}
		}
	}
	for _, s := range []string{"", "00", "0000", "01", "0100", "01 08 6e3a20696e743b0a 02 0005", "80"} {
		if states, e := Decode(nil, unhex(s)); len(states) != 0 || e != api.ErrNil {
			t.Errorf("Decode of %s: %s, %d", s, shownAll(states), e)
		}
	}
}

// Images.

// wantImage asks that a state has this image, there and back.
func wantImage(t *testing.T, p program, states []api.Value, want string) {
	t.Helper()
	b, e := Encode(p.m, states)
	if !bytes.Equal(b, unhex(want)) || e != api.OK {
		t.Errorf("%s: %.100s: %.200x, %d; not %.200s", p.src, shownAll(states), b, e, want)
	}
	if plain, e := plainEncode(p.Prog, states); !bytes.Equal(b, plain) || e != api.OK {
		t.Errorf("%s: %.100s: %.200x; the plain one says %.200x, %d", p.src, shownAll(states), b, plain, e)
	}
	if back, e := Decode(p.m, b); !allAlike(back, states) || e != api.OK {
		t.Errorf("%s: %.200x: %.200s, %d", p.src, b, shownAll(back), e)
	}
}

const wide = "version 300; state b: bool; state t: text; state l: [text]; state m: {int:[text]}; on upgrade(): int { set b = !b; } on f(x: int): int {}"

func TestImages(t *testing.T) {
	n, none := loaded(t, "version 1; state n: int; on add(x: int): int { ret x; }"), loaded(t, "version 1099511627776; on upgrade(): int {}")
	head := "01 08 6e3a20696e743b0a "
	for s, want := range map[string]string{
		"0": "02 0000", "-1": "02 0100", "127": "02 007f", "128": "03 008001", "-128": "02 017f", "-129": "03 018001",
		"9223372036854775807": "0a 00ffffffffffffffff7f", "-9223372036854775808": "0a 01ffffffffffffffff7f",
	} {
		wantImage(t, n, all(s), head+want)
	}
	wantImage(t, none, nil, "808080808020 00")
	p := loaded(t, wide)
	schema := "b: bool;\nt: text;\nl: [text];\nm: {int:[text]};\n"
	head = fmt.Sprintf("ac02 %02x %x ", len(schema), schema)
	wantImage(t, p, p.m.Zero(), head+"01 00 01 00 01 00 01 00")
	wantImage(t, p, all(`true, "ab", ["", "c"], {-1: ["x", ""], 2: []}`), head+"01 01 03 026162 04 02 00 0163 0a 02 0100 02 0178 00 0002 00")
	wantImage(t, p, values(one("true"), long(256), one("[]"), one("{}")), head+"01 01 8202 8002"+strings.Repeat("74", 256)+"01 00 01 00")
	heavy := list(append(slices.Repeat(values(long(256)), 63), long(191))...) // as heavy as may be
	wantImage(t, p, values(one("true"), long(0), heavy, one("{}")), head+"01 01 01 00 c08001 40"+strings.Repeat("8002"+strings.Repeat("74", 256), 63)+"bf01"+strings.Repeat("74", 191)+"01 00")
	many, bytes := "version 127;", ""
	for i := range 32 {
		many += fmt.Sprintf("state s%d: int;", i)
		bytes += "02 0000"
	}
	p = loaded(t, many)
	wantImage(t, p, p.m.Zero(), fmt.Sprintf("7f b602 %x", Schema(p.m))+bytes)
}

// Values that aren't a state.
func TestNoState(t *testing.T) {
	n, none, p := loaded(t, "version 1; state n: int;"), loaded(t, "version 1;"), loaded(t, wide)
	next := loaded(t, "version 2; on upgrade(): int {}")
	heavy := list(append(slices.Repeat(values(long(256)), 63), long(192))...)
	for _, c := range []struct {
		p     program
		unfit [][]api.Value
	}{
		{none, [][]api.Value{all("0"), {{}}, all("0, 0")}},
		{n, [][]api.Value{
			nil, {}, all("0, 0"), all("true"), all(`"0"`), all("[0]"), all("{}"), all("none"),
			{{Kind: 1, Text: "a"}}, {{Kind: 1, List: all("1")}}, {{Kind: 6, Num: 1}}, {{Kind: -1}},
		}},
		{p, [][]api.Value{
			nil, all("false"), all(`false, "", []`), all(`false, "", [], {}, 0`), all(`"", false, [], {}`), all(`false, "", {}, []`), all(`0, "", [], {}`), all(`false, 0, [], {}`),
			all(`false, "", [1], {}`), all(`false, "", [["a"]], {}`), all(`false, "", [none], {}`), all(`false, "", [], {1: "a"}`), all(`false, "", [], {"a": []}`), all(`false, "", [], {1: [1]}`),
			all(`false, "", [], {2: [], 1: []}`), all(`false, "", [], {1: [], 1: []}`), all(`false, "", [], {1}`), {{Kind: 2, Num: 2}, word(""), list(), pairs()},
			values(one("true"), long(257), list(), pairs()), values(one("true"), word(""), heavy, pairs()), values(one("true"), word(""), list(slices.Repeat(all(`""`), 65)...), pairs()),
		}},
	} {
		for _, l := range c.unfit {
			if b, e := Encode(c.p.m, l); len(b) != 0 || e != api.ErrState {
				t.Errorf("%s: %.200s: %.100x, %d", c.p.src, shownAll(l), b, e)
			}
			for _, other := range []program{next, c.p} { // of versions that aren't one more too
				for _, fuel := range []int{-1, 0, 9, 5000} {
					if got := told(Migrate(c.p.m, l, other.m, fuel)); got != "-> ErrState / 0" {
						t.Errorf("%s: %.200s: Migrate: %s", c.p.src, shownAll(l), got)
					}
				}
			}
		}
	}
}

// wantRead asks what Decode answers, and that Encode makes the bytes of it; and tells its error.
func wantRead(t *testing.T, p program, b []byte) api.Errno {
	t.Helper()
	states, e := Decode(p.m, b)
	if want, wanted := plainDecode(p.Prog, b); !allAlike(states, want) || e != wanted {
		t.Fatalf("%s: %.200x: %.200s, %s; not %.200s, %s", p.src, b, shownAll(states), errorName(e), shownAll(want), errorName(wanted))
	}
	if e != api.OK {
		return e
	}
	if back, e := Encode(p.m, states); !bytes.Equal(back, b) || e != api.OK {
		t.Fatalf("%s: %.200x: %.200s: %.200x, %d", p.src, b, shownAll(states), back, e)
	}
	return e
}

// wantError asks that bytes are refused so.
func wantError(t *testing.T, p program, b []byte, want api.Errno) {
	t.Helper()
	if states, e := Decode(p.m, b); len(states) != 0 || e != want {
		t.Errorf("%s: %.200x: %.200s, %s; not %s", p.src, b, shownAll(states), errorName(e), errorName(want))
	}
	wantRead(t, p, b)
}

// Images with something wrong with them.
func TestSpoiledImages(t *testing.T) {
	n, none, p := loaded(t, "version 1; state n: int;"), loaded(t, "version 128;"), loaded(t, wide)
	seen := map[api.Errno]int{}
	for _, c := range []struct {
		p      program
		states []api.Value
	}{
		{none, nil}, {n, all("5")}, {n, all("-300")}, {n, all("-9223372036854775808")}, {p, p.m.Zero()}, {p, all(`true, "ab", ["", "c"], {-1: ["x", ""], 2: []}`)},
	} {
		b, _ := Encode(c.p.m, c.states)
		for i := range b {
			wantError(t, c.p, b[:i:i], api.ErrForm)
			wantError(t, c.p, b[:i], api.ErrForm)
		}
		for x := range 256 {
			wantError(t, c.p, append(slices.Clone(b), byte(x)), api.ErrForm)
		}
		wantError(t, c.p, slices.Concat(b, b), api.ErrForm)
		for i := range b {
			for x := range 256 {
				other := slices.Clone(b)
				other[i] = byte(x)
				seen[wantRead(t, c.p, other)]++
			}
			long := slices.Insert(slices.Clone(b), i+1, 0)
			long[i] |= 0x80
			if wantRead(t, c.p, long) == api.OK {
				t.Errorf("%.200x: it is an image", long)
			}
			wantRead(t, c.p, slices.Delete(slices.Clone(b), i, i+1))
			wantRead(t, c.p, slices.Insert(slices.Clone(b), i, 0))
			wantRead(t, c.p, slices.Insert(slices.Clone(b), i, b[i]))
		}
	}
	if seen[api.OK] < 500 || seen[api.ErrForm] < 500 || seen[api.ErrVersion] < 500 {
		t.Error(seen)
	}
}

// Each part of an image another one: which of the errors it is.
func TestOtherImages(t *testing.T) {
	n, none, l := loaded(t, "version 1; state n: int;"), loaded(t, "version 128;"), loaded(t, "version 1; state l: [bool]; state t: text;")
	const is, schema, both = " 6e3a20696e743b0a ", "01 08 6e3a20696e743b0a ", "01 14 6c3a205b626f6f6c5d3b0a 743a20746578743b0a "
	for _, c := range []struct {
		p    program
		want api.Errno
		list []string
	}{
		// no number, or no number and so many bytes
		{n, api.ErrForm, []string{
			"", "01", "80", "ff", "8000 00", "0108", "0180", "01 8800" + is + "02 0005", "8100 08" + is + "02 0005", "01 09" + is, "01 0f" + is + "02 0005", "02 09" + is, "01 ffffffffffffffff7f" + is,
			"01 ffffffffffffffffff" + is, "ffffffffffffffffff", "ffffffffffffffffff01 08" + is + "02 0005", "80808080808080808000 08" + is + "02 0005", "01 80808080808080808000", "00 01", "8080 00", "02 8000",
		}},
		{none, api.ErrForm, []string{"8001", "80", "8100 00", "808100 00", "8001 01", "8001 8000"}},
		// another version or schema, whatever stands behind
		{n, api.ErrVersion, []string{
			"00 08" + is + "02 0005", "02 08" + is + "02 0005", "8101 08" + is + "02 0005", "ffffffffffffffff7f 08" + is + "02 0005", "02 08" + is, "02 08" + is + "ff", "02 08" + is + "02 0005 00",
			"00 00", "01 00", "01 00 02 0005", "01 01 6e", "01 07 6e3a20696e743b 02 0005", "01 07" + is + "02 0005", "01 09" + is + "02 0005", "01 0a" + is + "02 0005", "01 0b" + is + "02 0005", "01 08 6d3a20696e743b0a 02 0005", "01 08 6e3a20496e743b0a 02 0005",
			"01 09 6e3a20626f6f6c3b0a 01 01", "01 07 6e3a696e743b0a 02 0005", "01 10" + is + is + "02 0005 02 0005", "01 10" + is + "6d3a20696e743b0a 02 0005 02 0005", "02 00", "00 00 00",
		}},
		{none, api.ErrVersion, []string{"7f 00", "8101 00", "01 00", "8001 01 00", "8001 01 0a", "8001 08" + is + "02 0005", "00 00"}},
		{l, api.ErrVersion, []string{"01 14 743a20746578743b0a 6c3a205b626f6f6c5d3b0a 0161 00", "01 14 743a20746578743b0a 6c3a205b626f6f6c5d3b0a 01 00 01 00", "01 0b 6c3a205b626f6f6c5d3b0a 01 00", "01 09 743a20746578743b0a 01 00"}},
		// another state
		{n, api.ErrForm, []string{
			schema, schema + "00", schema + "02", schema + "01 00", schema + "01 05", schema + "02 00", schema + "02 0205", schema + "02 0500", schema + "03 008500", schema + "03 800005", schema + "03 810005", schema + "03 000500", schema + "8200 0005", schema + "828000 0005",
			schema + "02 0005 00", schema + "02 0005 02 0005", schema + "0a 00ffffffffffffffffff", schema + "0b 00ffffffffffffffffff01", schema + "ffffffffffffffff7f 0005", schema + "03 0005", schema + "01 0005",
		}},
		{none, api.ErrForm, []string{"8001 00 00", "8001 00 80", "8001 00 02 0005", "8001 00 8001 00"}},
		{l, api.ErrForm, []string{
			both, both + "01 00", both + "00 00", both + "00 01 00", both + "01 00 00", both + "02 0102 01 00", both + "02 0180 01 00", both + "03 018000 01 00", both + "02 0201 01 00", both + "03 010101 01 00",
			both + "01 00 01 01", both + "01 00 02 00 00", both + "01 00 03 8000 00", both + "01 00 02 0261", both + "01 00 03 0161", both + "02 00 00 01 00", both + "01 00 01 00 00", both + "41 41" + strings.Repeat("01", 65) + "01 00",
			both + "01 00 8302 8102" + strings.Repeat("61", 257), both + "02 8000 01 00", both + "01 ff 01 00", both + "0a ffffffffffffffff7f 01 00",
		}},
		// such as there are
		{n, api.OK, []string{schema + "02 0000", schema + "02 0100", schema + "03 018001", schema + "0a 01ffffffffffffffff7f"}},
		{none, api.OK, []string{"8001 00"}},
		{l, api.OK, []string{both + "01 00 01 00", both + "03 020100 02 0161", both + "41 40" + strings.Repeat("01", 64) + "01 00", both + "01 00 8202 8002" + strings.Repeat("61", 256)}},
	} {
		for _, s := range c.list {
			if c.want != api.OK {
				wantError(t, c.p, unhex(s), c.want)
			} else if e := wantRead(t, c.p, unhex(s)); e != api.OK {
				t.Errorf("%s: %s: %s", c.p.src, s, errorName(e))
			}
		}
	}
}

// An image is read by the machines of one version and one schema, whatever else they do.
func TestOtherMachines(t *testing.T) {
	states := all(`5, "a", [1, 2]`)
	from := loaded(t, "version 3; state n: int; state t: text; state l: [int]; on f(): int {}")
	b, _ := Encode(from.m, states)
	for src, want := range map[string]api.Errno{
		"version 3; state n: int; state t: text; state l: [int];":                                                                       api.OK,
		"version 3; on f(x: text): int {} state n: int; fn g(): int {} state t: text; on upgrade(): int { set n = 7; } state l: [int];": api.OK,
		"version 2; state n: int; state t: text; state l: [int]; on f(): int {}":                                                        api.ErrVersion,
		"version 4; state n: int; state t: text; state l: [int]; on f(): int {}":                                                        api.ErrVersion,
		"version 3; state n: int; state l: [int]; state t: text;":                                                                       api.ErrVersion,
		"version 3; state t: text; state n: int; state l: [int];":                                                                       api.ErrVersion,
		"version 3; state n: int; state t: text;":                                                                                       api.ErrVersion,
		"version 3; state t: text; state l: [int];":                                                                                     api.ErrVersion,
		"version 3; state n: int; state t: text; state l: [int]; state m: int;":                                                         api.ErrVersion,
		"version 3; state m: int; state t: text; state l: [int];":                                                                       api.ErrVersion,
		"version 3; state n: int; state t: text; state l: [bool];":                                                                      api.ErrVersion,
		"version 3; state n: int; state t: text; state l: [[int]];":                                                                     api.ErrVersion,
		"version 3;": api.ErrVersion,
	} {
		p := loaded(t, src)
		l, e := Decode(p.m, b)
		if e != want || e == api.OK && !allAlike(l, states) || e != api.OK && len(l) != 0 {
			t.Errorf("%s: %s, %s", src, shownAll(l), errorName(e))
		}
		wantRead(t, p, b)
	}
}

// Migrate.

// wantNext asks what Migrate answers of these, by the plain one too; and tells its error.
func wantNext(t *testing.T, old program, states []api.Value, next program, fuel int, want string) api.Errno {
	t.Helper()
	out, o := Migrate(old.m, states, next.m, fuel)
	if got := told(out, o); want != "" && got != want {
		t.Errorf("%s to %s: %s with %d: %s; not %s", old.src, next.src, shownAll(states), fuel, got, want)
	}
	if plain, wanted := plainMigrate(old.Prog, states, next.Prog, fuel); !allAlike(out, plain) || !sameOutcome(o, wanted) {
		t.Fatalf("%s to %s: %s with %d: %s; the plain one says %s", old.src, next.src, shownAll(states), fuel, told(out, o), told(plain, wanted))
	}
	return o.Err
}

func TestCarry(t *testing.T) {
	old := loaded(t, "version 1; state n: int; state t: text; state l: [int]; state m: {text:int}; on upgrade(): int { set n = 99; }")
	const l = `5, "a", [1, 2], {"k": 3}`
	for src, want := range map[string]string{
		"state n: int; state t: text; state l: [int]; state m: {text:int};": l,
		"state m: {text:int}; state n: int; state l: [int]; state t: text;": `{"k": 3}, 5, [1, 2], "a"`,
		"": "", "state n: int;": "5", "state m: {text:int};": `{"k": 3}`, "state l: [int]; state t: text;": `[1, 2], "a"`,
		"state n: int; state a: int; state t: text; state b: [int]; state l: [int]; state c: text; state m: {text:int}; state d: {text:int}; state e: bool;": `5, 0, "a", [], [1, 2], "", {"k": 3}, {}, false`,
		"state n: text; state t: int; state l: [text]; state m: {text:bool};":                                                                                `"", 0, [], {}`,
		"state n: [int]; state t: bool; state l: [[int]]; state m: {int:text};":                                                                              `[], false, [], {}`,
		"state t: int; state n: text;":                                                                `0, ""`,
		"state n: bool; state t: text; state l: {int:int}; state m: {text:[int]};":                    `false, "a", {}, {}`,
		"state n1: int; state nn: int; state _n: int; state lt: text; state tl: [int]; state n: int;": `0, 0, 0, "", [], 5`,
	} {
		next := loaded(t, "version 2; "+src)
		for fuel, left := range map[int]int{10: 10, 0: 0, 1: 1, 4096: 4096, 4097: 4096, greatest: 4096, -1: 0, least: 0} {
			wantNext(t, old, all(l), next, fuel, strings.TrimPrefix(fmt.Sprintf("%s -> none / %d", want, left), " "))
		}
		for _, more := range []string{"on f(): int { ret 1 / 0; }", "on upgrade(q: int): int { ret 1 / 0; }", "fn upgrade(): int { ret 1 / 0; }"} {
			wantNext(t, old, all(l), loaded(t, "version 2; "+src+more), 10, strings.TrimPrefix(want+" -> none / 10", " "))
		}
	}
	empty := loaded(t, "version 1;")
	wantNext(t, empty, nil, loaded(t, "version 2;"), 7, "-> none / 7")
	wantNext(t, empty, nil, loaded(t, "version 2; state n: int; state l: [text];"), 7, "0, [] -> none / 7")
	heavy := list(append(slices.Repeat(values(long(256)), 63), long(191))...)
	same := "state l: [text]; state t: text; state n: int; state m: int;"
	wantNext(t, loaded(t, "version 8; "+same), values(heavy, long(256), number(least), number(greatest)), loaded(t, "version 9; "+same), 1, "")
}

// What is called, and what isn't.
func TestUpgrade(t *testing.T) {
	old := loaded(t, `version 1; state n: int; state l: [int]; on upgrade(): int { ret 1 / 0; }`)
	both := "state l: [int]; state n: int; state x: text; "
	for src, want := range map[string]string{
		"on upgrade(): int { set n = n * 10; ret n; }":                                           `[1, 2], 50, "" -> 50 / 9`,
		"on upgrade(): text { set x = str(len(l)) + x; ret x + \"!\"; }":                         `[1, 2], 5, "2" -> "2!" / 9`,
		"on upgrade(): [int] { set l[0] = n; ret push(l, n); }":                                  `[5, 2], 5, "" -> [5, 2, 5] / 9`,
		"on upgrade(): bool { ret x == \"\" && n == 5; }":                                        `[1, 2], 5, "" -> true / 9`,
		"on upgrade(): {int:text} {}":                                                            `[1, 2], 5, "" -> {} / 9`,
		"on upgrade(): int {}":                                                                   `[1, 2], 5, "" -> 0 / 9`,
		"on upgrade(): int { for i to 9 { set n = n + i; } ret n; }":                             `[1, 2], 41, "" -> 41 / 0`,
		"fn up(a: int): int { ret a + 1; } on upgrade(): int { ret up(n); }":                     `[1, 2], 5, "" -> 6 / 8`,
		"on f(): int { set n = 1; } on upgrade(): int {} on g(): int {}":                         `[1, 2], 5, "" -> 0 / 9`,
		"on upgrade(): int { for i to 10 { set n = n + i; } ret n; }":                            `-> ErrFuel / 0`,
		"on upgrade(): int { set n = 6; ret n / len(x); }":                                       `-> ErrZero / 9`,
		"on upgrade(): int { set n = n * 9223372036854775807; }":                                 `-> ErrOver / 9`,
		"on upgrade(): int { for i to 3 { ret l[2]; } }":                                         `-> ErrKey / 8`,
		"on upgrade(): int { for i to 9 { set x = x + \"" + strings.Repeat("a", 100) + "\"; } }": `-> ErrSize / 6`,
		// no handler without params is named so
		"":                                       `[1, 2], 5, "" -> none / 9`,
		"on upgrade(a: int): int { set n = 7; }": `[1, 2], 5, "" -> none / 9`,
		"on upgrade(a: int, b: int): int { ret 1 / 0; }":                         `[1, 2], 5, "" -> none / 9`,
		"fn upgrade(): int { set n = 7; ret 5; }":                                `[1, 2], 5, "" -> none / 9`,
		"fn upgrade(): int { ret 1 / 0; } on upgrades(): int { ret upgrade(); }": `[1, 2], 5, "" -> none / 9`,
		"on upgrad(): int { set n = 7; }":                                        `[1, 2], 5, "" -> none / 9`,
		"on upgradee(): int { set n = 7; }":                                      `[1, 2], 5, "" -> none / 9`,
		"on f(upgrade: int): int { set n = 7; }":                                 `[1, 2], 5, "" -> none / 9`,
		"state upgrade: int; on f(): int { set upgrade = 7; }":                   `[1, 2], 5, "", 0 -> none / 9`,
	} {
		wantNext(t, old, all("5, [1, 2]"), loaded(t, "version 2; "+both+src), 9, want)
	}
}

// Fuel: just enough, one less, and more than there is.
func TestFuel(t *testing.T) {
	old := loaded(t, "version 4; state n: int;")
	for _, c := range []struct {
		body string
		need int
	}{{"", 0}, {"ret n;", 0}, {"ret f(n);", 1}, {"for i to 3 { set n = n + 1; }", 3}, {"for i to n { set n = n + f(i); }", 10}, {"for i to 4096 {}", 4096}, {"for i to 4097 {}", 4097}, {"for i to 5000 {}", 5000}} {
		next := loaded(t, "version 5; state n: int; fn f(x: int): int { ret x * 2; } on upgrade(): int { "+c.body+" }")
		for _, fuel := range []int{least, -1, 0, 1, 2, 3, 9, 10, 11, c.need - 1, c.need, c.need + 1, 4095, 4096, 4097, 5000, greatest} {
			out, o := Migrate(old.m, all("5"), next.m, fuel)
			have := min(max(fuel, 0), 4096)
			if have < c.need && (len(out) != 0 || !sameOutcome(o, api.Outcome{Err: api.ErrFuel})) || have >= c.need && (len(out) != 1 || o.Err != api.OK || o.Fuel != have-c.need) {
				t.Errorf("%s with %d: %s", c.body, fuel, told(out, o))
			}
			wantNext(t, old, all("5"), next, fuel, "")
		}
	}
}

func TestVersions(t *testing.T) {
	for from, list := range map[int][]int{1: {1, 2, 3, 1 << 40}, 2: {1, 2, 3, 4}, 9: {8, 10, 90}, 1<<40 - 1: {1<<40 - 2, 1<<40 - 1, 1 << 40}, 1 << 40: {1<<40 - 1, 1 << 40, 1}} {
		old := loaded(t, fmt.Sprintf("version %d; state n: int;", from))
		for _, to := range list {
			for src, right := range map[string]string{"": "5 -> none / 9", "on upgrade(): int { set n = n + 1; ret 1; }": "6 -> 1 / 9", "on upgrade(): int { ret 1 / 0; }": "-> ErrZero / 9"} {
				want := "-> ErrVersion / 0"
				if to == from+1 {
					want = right
				}
				wantNext(t, old, all("5"), loaded(t, fmt.Sprintf("version %d; state n: int; %s", to, src)), 9, want)
			}
		}
		wantNext(t, old, all("5"), old, 9, "-> ErrVersion / 0")
	}
}

// Any value's bytes.

// nest puts a value into so many lists.
func nest(n int, v api.Value) api.Value {
	for range n {
		v = list(v)
	}
	return v
}

// wantAny asks that a value has these bytes, there and back.
func wantAny(t *testing.T, v api.Value, want string) {
	t.Helper()
	b := Any(v)
	if !bytes.Equal(b, unhex(want)) || !bytes.Equal(b, plainAny(v)) {
		t.Errorf("%.200s: %.200x; not %.200s", shown(v), b, want)
	}
	wantValue(t, v, want)
}

// wantValue asks that bytes are read as a value.
func wantValue(t *testing.T, v api.Value, from string) {
	t.Helper()
	b := unhex(from)
	if x, e := ReadAny(b); !alike(x, v) || e != api.OK {
		t.Errorf("%.200s: %.200s, %s; not %.200s", from, shown(x), errorName(e), shown(v))
	}
	if x, e := plainReadAny(b); !alike(x, v) || e != api.OK {
		t.Errorf("%.200s: the plain one says %.200s, %s; not %.200s", from, shown(x), errorName(e), shown(v))
	}
}

func wantNone(t *testing.T, b []byte) {
	t.Helper()
	if x, e := ReadAny(b); !alike(x, api.Value{}) || e != api.ErrForm {
		t.Errorf("%.200x: %.200s, %s", b, shown(x), errorName(e))
	}
	if _, e := plainReadAny(b); e != api.ErrForm {
		t.Errorf("%.200x: the plain one says %s", b, errorName(e))
	}
}

// The values of the tables, and their bytes.
var anys = map[string]string{
	"0": "01 00 00", "5": "01 00 05", "127": "01 00 7f", "128": "01 00 8001", "300": "01 00 ac02", "-1": "01 01 00", "-2": "01 01 01", "-128": "01 01 7f", "-129": "01 01 8001",
	"9223372036854775807": "01 00 ffffffffffffffff7f", "-9223372036854775808": "01 01 ffffffffffffffff7f", "-9223372036854775807": "01 01 feffffffffffffff7f",
	"true": "02 01", "false": "02 00", `""`: "03 00", `"a"`: "03 01 61", `"ab"`: "03 02 6162", "none": "00",
	"[]": "04 00", "[[]]": "04 01 0400", `[3, {}, "a", true, [-1]]`: "04 05 010003 0500 030161 0201 0401010100", "[0, 0]": "04 02 010000 010000",
	"{}": "05 00", "{1: 5}": "05 02 010001 010005", `{1: "a", true: [], "k": {}, [2]: 0}`: "05 08 010001 030161 0201 0400 03016b 0500 0401010002 010000", "{{}: {}}": "05 02 0500 0500",
}

func TestAny(t *testing.T) {
	for s, want := range anys {
		wantAny(t, one(s), want)
		if s != "none" && !vm.Sound(one(s)) {
			t.Errorf("%s isn't sound", s)
		}
	}
	for n, want := range map[int]string{127: "7f", 128: "8001", 256: "8002"} {
		wantAny(t, long(n), "03"+want+strings.Repeat("74", n))
	}
	wantAny(t, list(slices.Repeat(all("5"), 64)...), "04 40"+strings.Repeat("010005", 64))
	wantAny(t, list(append(slices.Repeat(values(long(256)), 63), long(191))...), "04 40"+strings.Repeat("03 8002"+strings.Repeat("74", 256), 63)+"03 bf01"+strings.Repeat("74", 191))
	var most []api.Value
	bytes := ""
	for i := range 64 {
		most = append(most, number(i), list())
		bytes += fmt.Sprintf("0100%02x 0400", i)
	}
	wantAny(t, pairs(most...), "05 8001"+bytes)
	for _, v := range []api.Value{{}, {Num: 5}, {Text: "a"}, {List: all("1, 2")}, {Kind: 6}, {Kind: 6, Num: 1, Text: "a", List: all("1")}, {Kind: 7}, {Kind: 128}, {Kind: -1}, {Kind: least}, {Kind: greatest, List: all("[1]")}} {
		if b := Any(v); string(b) != "\x00" {
			t.Errorf("%s: %x", shown(v), b)
		}
	}
	for _, v := range []api.Value{{Kind: 2, Num: -1}, {Kind: 2, Num: least}, {Kind: 1, Text: "a"}, pairs(number(1)), list(api.Value{}), long(70000), nest(60000, list())} {
		Any(v) // of what isn't sound it ends
	}
}

// Values that aren't sound, but have bytes.
func TestReadUnsound(t *testing.T) {
	for from, v := range map[string]api.Value{
		"02 02": {Kind: 2, Num: 2}, "02 ac02": {Kind: 2, Num: 300}, "02 ffffffffffffffff7f": {Kind: 2, Num: greatest}, "04 01 0205": list(api.Value{Kind: 2, Num: 5}),
		"05 01 010007": pairs(number(7)), "05 03 010001 010002 010003": pairs(all("1, 2, 3")...), "05 04 010002 010000 010001 010000": pairs(all("2, 0, 1, 0")...), "05 04 010002 010000 010002 010000": pairs(all("2, 0, 2, 0")...),
		"04 01 00": list(api.Value{}), "04 03 00 010005 00": list(all("none, 5, none")...), "05 02 00 00": pairs(api.Value{}, api.Value{}), "04 01 04 01 00": nest(2, api.Value{}),
		"03 8102" + strings.Repeat("74", 257): long(257), "04 41" + strings.Repeat("0201", 65): list(slices.Repeat(all("true"), 65)...), "03 f0a204" + strings.Repeat("74", 70000): long(70000),
	} {
		wantValue(t, v, from)
		if vm.Sound(v) {
			t.Errorf("%.200s is sound", shown(v))
		}
	}
}

// How deep values may lie in one another: those in List one deep, theirs two.
func TestDeep(t *testing.T) {
	for n := range 40 {
		in := nest(n, number(5))
		empty := nest(n, list())
		keyed, valued, mixed, last := number(5), number(5), pairs(), number(5)
		for range n {
			keyed, valued, last = pairs(keyed, list()), pairs(number(1), valued), list(number(1), word("a"), last)
		}
		for i := range n {
			mixed = []api.Value{list(mixed), pairs(mixed, one("true")), pairs(one("[[1]]"), mixed)}[i%3]
		}
		for _, v := range []api.Value{in, empty, keyed, valued, last, mixed} {
			b := Any(v)
			if !bytes.Equal(b, plainAny(v)) || !vm.Sound(v) {
				t.Errorf("%s: %x; sound: %v", shown(v), b, vm.Sound(v))
			}
			if deepest(v) <= 24 {
				wantValue(t, v, hex.EncodeToString(b))
			} else {
				wantNone(t, b)
			}
		}
	}
	wantValue(t, nest(24, number(5)), strings.Repeat("0401", 24)+"010005")
	wantNone(t, unhex(strings.Repeat("0401", 25)+"010005"))
	wantValue(t, nest(24, list()), strings.Repeat("0401", 24)+"0400")
	wantNone(t, unhex(strings.Repeat("0401", 25)+"0400"))
	wantValue(t, nest(24, pairs()), strings.Repeat("0401", 24)+"0500")
	wantNone(t, unhex(strings.Repeat("0401", 25)+"00"))
	wantNone(t, unhex("04 02"+strings.Repeat("0401", 24)+"0400"+"0201"))
	wantNone(t, unhex("04 02 0201"+strings.Repeat("0401", 24)+"0400"))
	for _, n := range []int{100, 5000, 60000} {
		for _, b := range [][]byte{bytes.Repeat([]byte{4, 1}, n), append(bytes.Repeat([]byte{4, 1}, n), 4, 0), append(bytes.Repeat([]byte{5, 2, 2, 0}, n), 4, 0)} {
			if x, e := ReadAny(b); !alike(x, api.Value{}) || e != api.ErrForm {
				t.Errorf("%d deep: %.200s, %s", n, shown(x), errorName(e))
			}
		}
	}
	for _, n := range []int{100, 5000, 16383} { // a sound value may be as deep as it is heavy
		v := nest(n, list())
		if b := Any(v); !vm.Sound(v) || !bytes.Equal(b, append(bytes.Repeat([]byte{4, 1}, n), 4, 0)) {
			t.Errorf("%d deep: %d bytes; sound: %v", n, len(b), vm.Sound(v))
		}
	}
}

// What ReadAny doesn't take.
func TestNoValue(t *testing.T) {
	for s, from := range anys {
		b := unhex(from)
		for i := range b {
			wantNone(t, b[:i:i])
			wantNone(t, b[:i])
			long := slices.Insert(slices.Clone(b), i+1, 0)
			long[i] |= 0x80
			if x, e := ReadAny(long); e == api.OK {
				t.Errorf("%s: %x: %s", s, long, shown(x))
			}
		}
		for x := range 256 {
			wantNone(t, append(slices.Clone(b), byte(x)))
		}
		wantNone(t, slices.Concat(b, b))
	}
	for _, s := range []string{
		"", "06", "06 00", "07 01", "09 00", "7f", "80", "8000", "8001", "8100 00 05", "8200 01", "8300 00", "8400 00", "8500 00", "ffffffffffffffff7f", "ffffffffffffffffff", "00 00", "00 01 00 05",
		"01", "01 00", "01 01", "01 02 05", "01 03 05", "01 80 05", "01 8000 05", "01 8100 05", "01 00 80", "01 00 8500", "01 00 858000", "01 00 ffffffffffffffffff", "01 00 ffffffffffffffffff01", "01 01 ffffffffffffffffff", "01 01 8000", "01 ffffffffffffffff7f 05",
		"02", "02 80", "02 8000", "02 8100", "02 ffffffffffffffffff", "02 00 00",
		"03", "03 01", "03 02 61", "03 8000", "03 8100 61", "03 00 61", "03 01 6161", "03 ffffffffffffffff7f 61", "03 ffffffffffffffffff 61",
		"04", "04 01", "04 02 0100 05", "04 02 010005", "04 00 00", "04 01 010005 00", "04 8000", "04 8100 010005", "04 01 06", "04 01 0100", "04 01 010205", "04 ffffffffffffffff7f", "04 ffffffffffffffff7f 0400", "04 ffffffffffffffffff", "04 02 04 ffffffffffffffff7f",
		"05", "05 01", "05 02 010001", "05 8000", "05 8200 010001 010005", "05 02 010001 060005", "05 ffffffffffffffff7f", "05 02 05 ffffffffffffffff7f 0500",
		"04 01 8000", "04 01 80", "04 01 00 00", "04 02 00",
	} {
		wantNone(t, unhex(s))
	}
}

// All short bytes.
func TestShortBytes(t *testing.T) {
	some, are := []byte{0, 1, 2, 3, 4, 5, 6, 0x80, 'a', 0xff}, map[int]int{}
	var try func(b []byte)
	try = func(b []byte) {
		v, e := ReadAny(b)
		if want, wanted := plainReadAny(b); !alike(v, want) || e != wanted {
			t.Fatalf("%x: %s, %d; not %s, %d", b, shown(v), e, shown(want), wanted)
		}
		if e == api.OK {
			are[v.Kind]++
			if back := Any(v); !bytes.Equal(back, b) {
				t.Fatalf("%x: %s: %x", b, shown(v), back)
			}
		}
		if len(b) < 5 {
			for _, x := range some {
				try(append(b[:len(b):len(b)], x))
			}
		}
	}
	try(nil)
	for kind := range 6 {
		if are[kind] == 0 {
			t.Error(are)
		}
	}
}
