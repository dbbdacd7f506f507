package code

import (
	"bytes"
	"slices"
	"strings"
	"testing"

	"quern/api"
)

// wantRun asks of all calls whether a module can be run: Verify, Encode, Decode of its bytes.
func wantRun(t *testing.T, name string, m api.Module, states int, can bool) {
	t.Helper()
	want := api.ErrCode
	if can {
		want = api.OK
	}
	if e := Verify(m, states); e != want {
		t.Errorf("%s: Verify: %d, not %d: %s", name, e, want, told(m))
	}
	if e := plainVerify(m, states); e != want {
		t.Errorf("%s: the model: %d, not %d: %s", name, e, want, told(m))
	}
	b, e := Encode(m, states)
	if e != want || !can && len(b) > 0 || can && !bytes.Equal(b, plainBytes(m)) {
		t.Errorf("%s: Encode: %x, %d: %s", name, b[:min(len(b), 200)], e, told(m))
	}
	if !hasBytes(m) {
		return
	}
	back, e := Decode(plainBytes(m), states)
	if e != want || !can && !same(back, api.Module{}) || can && !same(back, m) {
		t.Errorf("%s: Decode: %s, %d: %s", name, told(back), e, told(m))
	}
}

// of makes a module of the constants 7, true and "a", and one function.
func of(params, locals, stack int, s string) api.Module {
	m := consts(number(7), truth(1), word("a"))
	m.Funcs = []api.Func{{Params: params, Locals: locals, Stack: stack, Code: asm(s)}}
	return m
}

// P13.1

func TestNames(t *testing.T) {
	ops := []int{Const, Load, Store, Get, Set, Pop, Jump, Unless, Call, Ret, Charge, Binary, Neg, Not, Len, Str, Has, At, Push, Put, Del}
	for i, op := range ops {
		if op != i+1 || rows[i].op != op {
			t.Errorf("%s: %d", rows[i].name, op)
		}
	}
	if len(ops) != len(rows) {
		t.Error("the table has others")
	}
}

func TestExamples(t *testing.T) {
	seven := func(stack int, s string) api.Module {
		return api.Module{Consts: []api.Value{number(7)}, Funcs: []api.Func{{Stack: stack, Code: asm(s)}}}
	}
	b, e := Encode(seven(1, "Const 0; Ret 0"), 0)
	if want := "\x01\x01\x01\x00\x07\x00\x00\x00\x01\x02\x01\x00\x0a\x00"; string(b) != want || e != api.OK {
		t.Errorf("%x, %d", b, e)
	}
	wantRun(t, "7", seven(1, "Const 0; Ret 0"), 0, true)
	wantRun(t, "Const alone", seven(1, "Const 0"), 0, false)
	wantRun(t, "Ret alone", seven(1, "Ret 0"), 0, false)
	wantRun(t, "another height", seven(1, "Const 0; Jump 0"), 0, false)
	wantRun(t, "Stack 0", seven(0, "Const 0; Ret 0"), 0, false)
}

// rich makes a module with 3 constants and, behind functions of 0, 2 and 8 params, one of 4 locals with this code.
func rich(stack int, code []api.Instr) api.Module {
	m := consts(number(7), truth(1), list())
	for _, params := range []int{0, 2, 8} {
		m.Funcs = append(m.Funcs, api.Func{Params: params, Locals: params, Stack: 1, Code: asm("Const; Ret")})
	}
	m.Funcs = append(m.Funcs, api.Func{Params: 1, Locals: 4, Stack: stack, Code: code})
	return m
}

const richStates = 5

// Each Op with an A at each end of what it may be, and beyond.
func TestEndsOfA(t *testing.T) {
	ends := map[string][2]int{"constant": {0, 2}, "local": {0, 3}, "state": {0, 4}, "place": {0, 2}, "function": {0, 2}, "units": {0, 1 << 40}, "operator": {3, 13}, "nought": {0, 0}}
	for _, x := range rows {
		low, high := ends[x.a][0], ends[x.a][1]
		for _, a := range []int{least, low - 1, low, (low + high) / 2, high, high + 1, greatest} {
			in := api.Instr{Op: x.op, A: a}
			fits := low <= a && a <= high
			// Never reached: its Op and A alone are looked at.
			wantRun(t, x.name+" behind", rich(1, append(asm("Const; Ret"), in)), richStates, fits)
			if x.a == "place" {
				continue // another place has other heights: below
			}
			pops := x.pops
			if x.name == "Call" && fits {
				pops = []int{0, 2, 8}[a]
			}
			code := append(slices.Repeat(asm("Const"), pops), in)
			code = append(code, asm("Const; Ret")...)
			wantRun(t, x.name, rich(10, code), richStates, fits)
		}
	}
	for _, op := range []int{least, -1, 0, 22, 23, greatest} {
		wantRun(t, "no Op", of(0, 0, 1, "Const; Ret"), 0, true)
		m := of(0, 0, 1, "Const; Ret")
		m.Funcs[0].Code = append(m.Funcs[0].Code, api.Instr{Op: op})
		wantRun(t, "no Op", m, 0, false)
		m.Funcs[0].Code[0].Op = op
		wantRun(t, "no Op", m, 0, false)
	}
}

// Each Op with a stack that is just high enough, and with one too low.
func TestHeightsOfOps(t *testing.T) {
	for _, x := range rows {
		as := []int{map[string]int{"operator": 9}[x.a]}
		if x.name == "Call" {
			as = []int{0, 1, 2}
		}
		for _, a := range as {
			pops := x.pops
			if x.name == "Call" {
				pops = []int{0, 2, 8}[a]
			}
			for _, below := range []int{0, 1, 5} { // what lies below is left as it is
				wantHeights(t, x, a, pops, below)
			}
		}
	}
}

func wantHeights(t *testing.T, x row, a, pops, below int) {
	t.Helper()
	run := func(has, stack int) api.Module {
		code := append(slices.Repeat(asm("Const"), has), api.Instr{Op: x.op, A: a})
		if x.a == "place" {
			code[has].A = has + 1
		}
		if x.name != "Ret" {
			// Just as many as must be there now can be popped.
			code = append(code, slices.Repeat(asm("Pop"), max(0, has-pops+x.pushes))...)
			code = append(code, asm("Const; Ret")...)
		}
		return rich(stack, code)
	}
	has := pops + below
	top := max(1, has, below+x.pushes)
	wantRun(t, x.name+" just so", run(has, top), richStates, true)
	wantRun(t, x.name+" above Stack", run(has, top-1), richStates, false)
	if pops > 0 {
		wantRun(t, x.name+" too low", run(pops-1, 256), richStates, false)
	}
	if x.name != "Ret" {
		m := run(has, 256)
		code := &m.Funcs[3].Code
		*code = slices.Insert(*code, has+1, asm("Pop")...)
		wantRun(t, x.name+" leaves no more", m, richStates, false)
	}
}

// Each limit of a module at each end, and beyond.
func TestLimits(t *testing.T) {
	for _, states := range []int{least, -1, 0, 1, 31, 32, 33, greatest} {
		wantRun(t, "states", api.Module{}, states, 0 <= states && states <= 32)
		wantRun(t, "states", of(0, 0, 1, "Const; Ret"), states, 0 <= states && states <= 32)
		wantRun(t, "state 31", of(0, 0, 1, "Get 31; Ret"), states, states == 32)
	}
	for _, n := range []int{0, 1, 31, 32, 33, 64} {
		m := of(0, 0, 1, "Const; Ret")
		m.Funcs = slices.Repeat(m.Funcs, n)
		wantRun(t, "functions", m, 0, n <= 32)
	}
	for _, n := range []int{0, 1, 2, 1<<14 - 1, 1 << 14, 1<<14 + 1, 1 << 15} {
		m := consts(slices.Repeat([]api.Value{number(0)}, n)...)
		wantRun(t, "constants", m, 0, n <= 1<<14)
		m.Funcs = []api.Func{{Zero: n - 1, Stack: 1, Code: asm("Jump")}}
		wantRun(t, "constants", m, 0, 1 <= n && n <= 1<<14)
		m.Funcs[0].Zero = n
		wantRun(t, "Zero", m, 0, false)
		m.Funcs[0].Zero = -1
		wantRun(t, "Zero", m, 0, false)
	}
	for _, n := range []int{0, 1, 2, 1<<14 - 1, 1 << 14, 1<<14 + 1, 1 << 15} {
		wantRun(t, "code", of(0, 0, 1, strings.Repeat("Charge;", max(0, n-1))+strings.Repeat("Jump", min(n, 1))), 0, 1 <= n && n <= 1<<14)
	}
}

func TestFrames(t *testing.T) {
	for _, n := range append(slices.Clone(edges), 4, 5, 6, 10) {
		wantRun(t, "Params", of(n, 256, 1, "Const; Ret"), 0, 0 <= n && n <= 8)
		wantRun(t, "Params and Locals", of(n, n, 1, "Const; Ret"), 0, 0 <= n && n <= 8)
		wantRun(t, "Params above Locals", of(n, n-1, 1, "Const; Ret"), 0, false)
		wantRun(t, "Locals", of(0, n, 1, "Const; Ret"), 0, 0 <= n && n <= 256)
		wantRun(t, "Locals", of(8, n, 1, "Const; Ret"), 0, 8 <= n && n <= 256)
		wantRun(t, "Stack", of(0, 0, n, "Const; Ret"), 0, 1 <= n && n <= 256)
		wantRun(t, "Stack of nothing", of(0, 0, n, "Jump"), 0, 1 <= n && n <= 256)
		m := of(0, 0, 1, "Const; Ret")
		m.Funcs[0].Zero = n
		wantRun(t, "Zero", m, 0, 0 <= n && n <= 2)
		// A function that nobody calls counts as well, and one behind it.
		m = of(0, 0, 1, "Const; Ret")
		m.Funcs = append(m.Funcs, of(n, 9, 1, "Const; Ret").Funcs[0], m.Funcs[0])
		wantRun(t, "the second", m, 0, 0 <= n && n <= 8)
	}
	for _, n := range []int{1, 2, 255, 256, 257, 300} {
		wantRun(t, "high", of(0, 0, 256, strings.Repeat("Const;", n)+"Ret"), 0, n <= 256)
		wantRun(t, "as high as it needs", of(0, 0, n, strings.Repeat("Const;", n)+"Ret"), 0, n <= 256)
		wantRun(t, "higher", of(0, 0, n-1, strings.Repeat("Const;", n)+"Ret"), 0, false)
	}
	wantRun(t, "nothing", api.Module{}, 0, true)
	wantRun(t, "no function", consts(number(1)), 0, true)
	wantRun(t, "no constant", api.Module{Funcs: []api.Func{{Stack: 1, Code: asm("Jump")}}}, 0, false)
}

// Constants, and their type.
var constCases = []struct {
	name string
	v    api.Value
	want string
}{
	{"none", api.Value{}, ""},
	{"0", number(0), "int"},
	{"-1", number(-1), "int"},
	{"the greatest", number(greatest), "int"},
	{"the least", number(least), "int"},
	{"a number with a text", api.Value{Kind: 1, Text: "a"}, ""},
	{"a number with an element", api.Value{Kind: 1, List: []api.Value{number(1)}}, ""},
	{"a number with an empty list", api.Value{Kind: 1, Num: 3, List: []api.Value{}}, "int"},
	{"false", truth(0), "bool"},
	{"true", truth(1), "bool"},
	{"no truth", truth(2), ""},
	{"no truth", truth(-1), ""},
	{"a truth with a text", api.Value{Kind: 2, Text: "a"}, ""},
	{"a truth with an element", api.Value{Kind: 2, List: []api.Value{truth(1)}}, ""},
	{"no bytes", word(""), "text"},
	{"a byte", word("a"), "text"},
	{"all bytes", word("\x00\xff\x80ö\n\""), "text"},
	{"255 bytes", word(strings.Repeat("a", 255)), "text"},
	{"256 bytes", word(strings.Repeat("a", 256)), "text"},
	{"257 bytes", word(strings.Repeat("a", 257)), ""},
	{"many bytes", word(strings.Repeat("a", 1<<20)), ""},
	{"a text with a number", api.Value{Kind: 3, Num: 1, Text: "a"}, ""},
	{"a text with an element", api.Value{Kind: 3, Text: "a", List: []api.Value{word("a")}}, ""},
	{"an empty list", list(), "[int]"},
	{"an empty list", api.Value{Kind: 4, List: []api.Value{}}, "[int]"},
	{"a list of 1", list(number(1)), ""},
	{"a list of 2", list(number(1), number(2)), ""},
	{"a list of texts", list(word("a")), ""},
	{"a list of lists", list(list()), ""},
	{"a list of no value", list(api.Value{}), ""},
	{"a list with a number", api.Value{Kind: 4, Num: 1}, ""},
	{"a list with a text", api.Value{Kind: 4, Text: "a"}, ""},
	{"an empty map", table(), "{int:int}"},
	{"an empty map", api.Value{Kind: 5, List: []api.Value{}}, "{int:int}"},
	{"a map of a pair", table(number(1), number(2)), ""},
	{"a map of half a pair", table(number(1)), ""},
	{"a map with a number", api.Value{Kind: 5, Num: 1}, ""},
	{"a map with a number below 0", api.Value{Kind: 5, Num: -1}, ""},
	{"a map with a text", api.Value{Kind: 5, Text: "a"}, ""},
	{"Kind 6", api.Value{Kind: 6}, ""},
	{"Kind -1", api.Value{Kind: -1}, ""},
	{"Kind 0 with a number", api.Value{Num: 1}, ""},
	{"the greatest Kind", api.Value{Kind: greatest, Num: greatest}, ""},
	{"the least Kind", api.Value{Kind: least, Num: least}, ""},
}

func TestConstants(t *testing.T) {
	for _, c := range constCases {
		if s := Type(c.v); s != c.want || plainType(c.v) != c.want {
			t.Errorf("%s: Type: %q, not %q", c.name, s, c.want)
		}
		wantRun(t, c.name, consts(c.v), 0, c.want != "")
		wantRun(t, c.name+" behind another", consts(number(1), c.v), 0, c.want != "")
		wantRun(t, c.name+" ahead of another", consts(c.v, number(1)), 0, c.want != "")
		m := of(0, 0, 1, "Const; Ret")
		m.Consts = append(m.Consts, c.v)
		wantRun(t, c.name+" that nothing names", m, 0, c.want != "")
	}
}

func TestHeights(t *testing.T) {
	for _, c := range []struct {
		name  string
		stack int
		code  string
		can   bool
	}{
		{"at itself", 1, "Jump 0", true},
		{"at itself, with a height", 1, "Const; Jump 1", true},
		{"back, the same height", 1, "Const; Pop; Jump 0", true},
		{"back, one more", 2, "Const; Jump 0", false},
		{"back, one less", 2, "Const; Const; Pop; Jump 2", false},
		{"back into the midst", 2, "Const; Const; Pop; Jump 1", true},
		{"ahead", 1, "Jump 2; Ret; Const; Ret", true},
		{"ahead, to a Ret without a value", 1, "Jump 1; Ret", false},
		{"ahead, over what would be too high", 1, "Const; Jump 4; Const; Const; Ret", true},
		{"ahead, over what runs off the end", 1, "Const; Jump 2; Ret; Const", true},
		{"ways that meet", 1, "Const; Unless 4; Const; Jump 5; Const; Ret", true},
		{"ways that meet, one higher", 2, "Const; Unless 5; Const; Const; Jump 6; Const; Ret", false},
		{"ways that meet, one lower", 2, "Const; Const; Unless 4; Pop; Const; Ret", false},
		{"ways that meet at 2", 2, "Const; Const; Unless 4; Jump 4; Const; Ret", true},
		{"Unless right behind itself", 1, "Const; Unless 2; Const; Ret", true},
		{"Unless at itself", 2, "Const; Const; Unless 2; Ret", false},
		{"Unless back", 1, "Const; Unless 0; Const; Ret", true},
		{"Unless back, another height", 2, "Const; Const; Unless 0; Ret", false},
		{"Unless at the end", 1, "Const; Unless 0", false},
		{"Unless at nothing", 1, "Const; Unless 4; Const; Ret", false},
		{"Jump at nothing", 1, "Jump 1", false},
		{"both ways end", 1, "Const; Unless 4; Const; Ret; Const; Ret", true},
		{"the second way too low", 1, "Const; Unless 4; Const; Ret; Ret", false},
		{"the first way too low", 1, "Const; Unless 3; Ret; Const; Ret", false},
		{"the second way too high", 1, "Const; Unless 4; Const; Ret; Const; Const; Ret", false},
		{"the first way too high", 1, "Const; Unless 5; Const; Const; Ret; Const; Ret", false},
		{"the second way runs off the end", 1, "Const; Unless 4; Const; Ret; Const", false},
		{"off the end", 1, "Const", false},
		{"off the end, of nothing", 1, "Charge", false},
		{"off the end behind a Pop", 1, "Const; Pop", false},
		{"a Ret above others", 3, "Const; Const; Const; Ret", true},
		{"behind a Ret", 1, "Const; Ret; Ret; Put; Const; Const; Jump 0", true},
		{"behind a Ret, off the end", 1, "Const; Ret; Const", true},
		{"behind a Ret, no A", 1, "Const; Ret; Const 3", false},
		{"behind a Jump", 1, "Jump 0; Put", true},
		{"behind a Jump, no place", 1, "Jump 0; Unless 2", false},
		{"two that are never reached, two heights", 1, "Const; Ret; Const; Jump 2", true},
		{"a place that is never reached goes on at one that is", 1, "Const; Ret; Jump 1", true},
		{"a loop", 2, "Const; Unless 5; Const; Pop; Jump 0; Const; Ret", true},
		{"a loop that grows", 9, "Const 1; Unless 4; Const; Jump 0; Const; Ret", false},
		{"a loop that falls", 9, "Const; Const; Const; Unless 6; Pop; Jump 2; Ret", false},
		{"reached from behind alone", 1, "Jump 3; Const; Ret; Jump 1", true},
		{"reached from behind, too low", 1, "Jump 3; Ret; Ret; Jump 1", false},
	} {
		wantRun(t, c.name, of(0, 0, c.stack, c.code), 0, c.can)
	}
}

func TestCalls(t *testing.T) {
	answer := of(0, 0, 1, "Const; Ret").Funcs[0]
	two := api.Func{Params: 2, Locals: 2, Stack: 2, Code: asm("Load; Load 1; Binary 9; Ret")}
	call := func(s string) api.Func { return api.Func{Stack: 3, Code: asm(s)} }
	module := func(l ...api.Func) api.Module { return api.Module{Consts: []api.Value{number(7)}, Funcs: l} }
	wantRun(t, "the own one", module(call("Call 0; Ret")), 0, false)
	wantRun(t, "the own one, never reached", module(call("Const; Ret; Call 0")), 0, false)
	wantRun(t, "one below", module(answer, call("Call 0; Ret")), 0, true)
	wantRun(t, "the own one behind another", module(answer, call("Call 1; Ret")), 0, false)
	wantRun(t, "one above", module(call("Call 1; Ret"), answer), 0, false)
	wantRun(t, "one far above", module(answer, call("Call 2; Ret"), answer), 0, false)
	wantRun(t, "none", module(answer, call("Call 7; Ret")), 0, false)
	wantRun(t, "below 0", module(answer, call("Call -1; Ret")), 0, false)
	wantRun(t, "two params", module(answer, two, call("Const; Const; Call 1; Ret")), 0, true)
	wantRun(t, "two params, one there", module(answer, two, call("Const; Call 1; Ret")), 0, false)
	wantRun(t, "two params, three there", module(answer, two, call("Const; Const; Const; Call 1; Binary 3; Ret")), 0, true)
	wantRun(t, "the other function's params", module(two, answer, call("Call 1; Ret")), 0, true)
	wantRun(t, "the other function's params", module(two, answer, call("Call 0; Ret")), 0, false)
	wantRun(t, "its answer has no room", module(answer, call("Const; Const; Const; Call 0; Ret")), 0, false)
	wantRun(t, "its answer has room", module(answer, call("Const; Const; Call 0; Ret")), 0, true)
	wantRun(t, "one that can't be run", module(call("Ret"), call("Call 0; Ret")), 0, false)
	last := slices.Repeat([]api.Func{answer}, 31)
	wantRun(t, "the last but one", module(append(last, call("Call 30; Ret"))...), 0, true)
	wantRun(t, "the last", module(append(last, call("Call 31; Ret"))...), 0, false)
}

// The bytes, by hand.
func TestBytes(t *testing.T) {
	m := consts(number(-1), number(300), number(-300), truth(1), truth(0), word(""), word("ab"), list(), table(), number(greatest), number(least))
	b, e := Encode(m, 0)
	want := "\x0b\x00" + "\x01\x01\x00" + "\x01\x00\xac\x02" + "\x01\x01\xab\x02" + "\x02\x01" + "\x02\x00" + "\x03\x00" + "\x03\x02ab" + "\x04\x00" + "\x05\x00" +
		"\x01\x00\xff\xff\xff\xff\xff\xff\xff\xff\x7f" + "\x01\x01\xff\xff\xff\xff\xff\xff\xff\xff\x7f"
	if string(b) != want || e != api.OK {
		t.Errorf("%x, %d", b, e)
	}
	m = of(1, 256, 200, "Const 2; Charge 1099511627776; Pop; Load 255; Ret")
	m.Funcs[0].Zero = 1
	m.Funcs = append(m.Funcs, api.Func{Stack: 1, Code: asm("Get 31; Call 0; Ret")})
	b, e = Encode(m, 32)
	want = "\x03\x02" + "\x01\x00\x07" + "\x02\x01" + "\x03\x01a" +
		"\x01\x80\x02\x01\xc8\x01\x05" + "\x01\x02" + "\x0b\x80\x80\x80\x80\x80\x20" + "\x06\x00" + "\x02\xff\x01" + "\x0a\x00" +
		"\x00\x00\x00\x01\x03" + "\x04\x1f" + "\x09\x00" + "\x0a\x00"
	if string(b) != want || e != api.OK {
		t.Errorf("%x, %d", b, e)
	}
	if back, e := Decode(b, 32); !same(back, m) || e != api.OK {
		t.Errorf("%s, %d", told(back), e)
	}
	if b, e := Encode(api.Module{}, 0); string(b) != "\x00\x00" || e != api.OK {
		t.Errorf("%x, %d", b, e)
	}
}

func TestDecode(t *testing.T) {
	const fn = "\x00\x00\x00\x01\x02\x01\x00\x0a\x00" // answers the constant 0
	long := strings.Repeat("a", 256)
	for _, c := range []struct {
		name   string
		b      string
		states int
		want   api.Errno
	}{
		{"nothing", "", 0, api.ErrForm},
		{"one number", "\x00", 0, api.ErrForm},
		{"no constants, no functions", "\x00\x00", 0, api.OK},
		{"a byte behind", "\x00\x00\x00", 0, api.ErrForm},
		{"another function", "\x01\x01\x01\x00\x07" + fn, 0, api.OK},
		{"a byte behind a function", "\x01\x01\x01\x00\x07" + fn + "\x00", 0, api.ErrForm},
		{"two functions told, one there", "\x01\x02\x01\x00\x07" + fn, 0, api.ErrForm},
		{"no function told, one there", "\x01\x00\x01\x00\x07" + fn, 0, api.ErrForm},
		{"too many states", "\x00\x00", 33, api.ErrCode},
		{"too many states, a byte behind", "\x00\x00\x00", 33, api.ErrForm},
		{"states below 0", "\x00\x00", -1, api.ErrCode},
		{"a long 0", "\x80\x00\x00", 0, api.ErrForm},
		{"a long 0", "\x00\x80\x00", 0, api.ErrForm},
		{"a number of ten bytes", "\x80\x80\x80\x80\x80\x80\x80\x80\x80\x01\x00", 0, api.ErrForm},
		{"a long Kind", "\x01\x00\x82\x00\x01", 0, api.ErrForm},
		{"1 ahead", "\x01\x00\x01\x01\x05", 0, api.OK},
		{"2 ahead", "\x01\x00\x01\x02\x05", 0, api.ErrForm},
		{"3 ahead", "\x01\x00\x01\x03\x00", 0, api.ErrForm},
		{"much ahead", "\x01\x00\x01\xff\xff\xff\xff\xff\xff\xff\xff\x7f\x00", 0, api.ErrForm},
		{"2 ahead, in what can't be run", "\x02\x00\x01\x02\x05\x02\x02", 0, api.ErrCode},
		{"2 ahead, too many states", "\x01\x00\x01\x02\x05", 33, api.ErrCode},
		{"2 ahead, a byte behind, too many states", "\x01\x00\x01\x02\x05\x00", 33, api.ErrForm},
		{"2 ahead, with a function", "\x01\x01\x01\x02\x05" + fn, 0, api.ErrForm},
		{"2 ahead, with a function that can't be run", "\x01\x01\x01\x02\x05\x00\x00\x00\x01\x01\x0a\x00", 0, api.ErrCode},
		{"a number without its second number", "\x01\x00\x01\x00", 0, api.ErrForm},
		{"true", "\x01\x00\x02\x01", 0, api.OK},
		{"no truth", "\x01\x00\x02\x02", 0, api.ErrCode},
		{"no truth, a byte behind", "\x01\x00\x02\x02\x00", 0, api.ErrForm},
		{"no bytes", "\x01\x00\x03\x00", 0, api.OK},
		{"a text", "\x01\x00\x03\x02ab", 0, api.OK},
		{"a text that ends early", "\x01\x00\x03\x03ab", 0, api.ErrForm},
		{"a text with a byte behind", "\x01\x00\x03\x01ab", 0, api.ErrForm},
		{"a text of 256 bytes", "\x01\x00\x03\x80\x02" + long, 0, api.OK},
		{"a text of 257 bytes", "\x01\x00\x03\x81\x02" + long + "a", 0, api.ErrCode},
		{"a text of 257 bytes that ends early", "\x01\x00\x03\x81\x02" + long, 0, api.ErrForm},
		{"a text of many bytes that aren't there", "\x01\x00\x03\xff\xff\xff\xff\xff\xff\xff\xff\x7f" + long, 0, api.ErrForm},
		{"an empty list", "\x01\x00\x04\x00", 0, api.OK},
		{"a list with a number", "\x01\x00\x04\x01", 0, api.ErrCode},
		{"a list of 7", "\x01\x00\x04\x01\x00\x07", 0, api.ErrForm},
		{"an empty map", "\x01\x00\x05\x00", 0, api.OK},
		{"a map with a number", "\x01\x00\x05\x01", 0, api.ErrCode},
		{"Kind 0", "\x01\x00\x00\x00", 0, api.ErrCode},
		{"Kind 0 without a number", "\x01\x00\x00", 0, api.ErrForm},
		{"Kind 6", "\x01\x00\x06\x00", 0, api.ErrCode},
		{"Kind 6 and two numbers", "\x01\x00\x06\x00\x00", 0, api.ErrForm},
		{"Kind 6 without a number", "\x01\x00\x06", 0, api.ErrForm},
		{"the greatest Kind", "\x01\x00\xff\xff\xff\xff\xff\xff\xff\xff\x7f\x00", 0, api.ErrCode},
		{"many constants that aren't there", "\xff\xff\xff\xff\xff\xff\xff\xff\x7f\x00", 0, api.ErrForm},
		{"many functions that aren't there", "\x00\xff\xff\xff\xff\xff\xff\xff\xff\x7f", 0, api.ErrForm},
		{"many instructions that aren't there", "\x01\x01\x01\x00\x07\x00\x00\x00\x01\xff\xff\xff\xff\xff\xff\xff\xff\x7f\x01\x00\x0a\x00", 0, api.ErrForm},
		{"no instruction", "\x01\x01\x01\x00\x07\x00\x00\x00\x01\x00", 0, api.ErrCode},
		{"an instruction without A", "\x01\x01\x01\x00\x07\x00\x00\x00\x01\x02\x01\x00\x0a", 0, api.ErrForm},
		{"a state that isn't there", "\x01\x01\x01\x00\x07\x00\x00\x00\x01\x02\x04\x00\x0a\x00", 0, api.ErrCode},
		{"a state", "\x01\x01\x01\x00\x07\x00\x00\x00\x01\x02\x04\x00\x0a\x00", 1, api.OK},
	} {
		m, e := Decode([]byte(c.b), c.states)
		want, err := plainDecode([]byte(c.b), c.states)
		if e != c.want || err != c.want || !same(m, want) {
			t.Errorf("%s: %s, %d; not %s, %d", c.name, told(m), e, told(want), c.want)
		}
	}
}

// What is too many is refused only behind all its bytes: they may not be such.
func TestManyThings(t *testing.T) {
	one := putNumbers(nil, 4, 0)
	instr := putNumbers(nil, Charge, 0)
	for _, n := range []int{1 << 14, 1<<14 + 1, 1<<14 + 2, 1 << 17} {
		want := api.ErrCode
		if n == 1<<14 {
			want = api.OK
		}
		many := append(putNumbers(nil, n, 0), bytes.Repeat(one, n)...)
		wantErr(t, many, want)
		wantErr(t, append(many, 0), api.ErrForm)
		wantErr(t, many[:len(many)-1], api.ErrForm)

		head := putNumbers(nil, 1, 1, 4, 0, 0, 0, 0, 1, n)
		many = append(slices.Concat(head, bytes.Repeat(instr, n-1)), Jump, 0)
		wantErr(t, many, want)
		wantErr(t, append(many, 0), api.ErrForm)
		wantErr(t, many[:len(many)-1], api.ErrForm)
	}
	for _, n := range []int{32, 33, 34, 5000} {
		want := api.ErrCode
		if n == 32 {
			want = api.OK
		}
		many := append(putNumbers(nil, 1, n, 4, 0), bytes.Repeat(putNumbers(nil, 0, 0, 0, 1, 1, Jump, 0), n)...)
		wantErr(t, many, want)
		wantErr(t, append(many, 0), api.ErrForm)
		wantErr(t, many[:len(many)-1], api.ErrForm)
	}
}

func wantErr(t *testing.T, b []byte, want api.Errno) {
	t.Helper()
	m, e := Decode(b, 0)
	if e != want || e != api.OK && !same(m, api.Module{}) {
		t.Errorf("%d bytes: %s, %d, not %d", len(b), told(m), e, want)
	}
}
