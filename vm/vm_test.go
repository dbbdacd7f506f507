package vm

import (
	"fmt"
	"slices"
	"strings"
	"testing"

	"quern/api"
	"quern/code"
)

// wantRun asks what a module's last function answers, and that the plain machine says so too.
func wantRun(t *testing.T, m api.Module, states, args []api.Value, fuel int, want string) {
	t.Helper()
	if code.Verify(m, len(states)) != api.OK {
		t.Fatalf("%+v: it can't be run", m)
	}
	n := len(m.Funcs) - 1
	out, o := Run(m, states, n, args, fuel)
	if got := told(out, o); got != want {
		t.Errorf("%+v of %s: (%s) with %d: %s; not %s", m.Funcs, shownAll(states), shownAll(args), fuel, got, want)
	}
	if o.Err != api.OK && !alike(o.Value, api.Value{}) {
		t.Errorf("%+v: %+v: a value beside an error", m.Funcs, o)
	}
	if out, o := plainRun(m, states, n, args, fuel, map[int]int{}); told(out, o) != want {
		t.Errorf("%+v of %s: the plain machine: %s; not %s", m.Funcs, shownAll(states), told(out, o), want)
	}
}

// wantCode asks what instructions answer, with the fuel 9.
func wantCode(t *testing.T, states, body, want string) {
	t.Helper()
	wantRun(t, made("0 0: "+body), all(states), nil, 9, want)
}

// The examples.

func TestExamples(t *testing.T) {
	wantCode(t, "", "Const 7, Ret", "-> 7 / 9")
	wantCode(t, "", "Jump 0", "-> ErrFuel / 0")
	wantCode(t, "", "Const 7, Not, Ret", "-> ErrCode / 9")
}

// Sound, at each of its limits.

// pairs answers a map of so many pairs, whose keys rise.
func pairs(n int) api.Value {
	var l []api.Value
	for i := range n {
		l = append(l, number(i), truth(true))
	}
	return table(l...)
}

// Each case by itself, and within lists and maps, as a key too.
func TestSound(t *testing.T) {
	ints := func(n int) api.Value { return list(slices.Repeat(all("5"), n)...) }
	one := all("5")
	for _, c := range []struct {
		what string
		v    api.Value
		want bool
	}{
		{"0", number(0), true}, {"-1", number(-1), true}, {"the greatest", number(greatest), true}, {"the least", number(least), true},
		{"a number with a text", api.Value{Kind: 1, Num: 5, Text: "a"}, false}, {"a number with a list", api.Value{Kind: 1, Num: 5, List: one}, false},
		{"a number with an empty list", api.Value{Kind: 1, Num: 5, List: []api.Value{}}, true},
		{"false", truth(false), true}, {"true", truth(true), true}, {"truth 2", api.Value{Kind: 2, Num: 2}, false}, {"truth -1", api.Value{Kind: 2, Num: -1}, false}, {"truth least", api.Value{Kind: 2, Num: least}, false},
		{"a truth with a text", api.Value{Kind: 2, Num: 1, Text: "a"}, false}, {"a truth with a list", api.Value{Kind: 2, Num: 1, List: one}, false},
		{"no bytes", word(""), true}, {"bytes", word("\x00\xff"), true}, {"255 bytes", long(255), true}, {"256 bytes", long(256), true}, {"257 bytes", long(257), false}, {"16383 bytes", long(16383), false},
		{"a text with a number", api.Value{Kind: 3, Num: 1, Text: "a"}, false}, {"a text with -1", api.Value{Kind: 3, Num: -1}, false}, {"a text with a list", api.Value{Kind: 3, Text: "a", List: one}, false},
		{"no elements", list(), true}, {"63 elements", ints(63), true}, {"64 elements", ints(64), true}, {"65 elements", ints(65), false}, {"all kinds", list(all(`1, true, "a", [], {}`)...), true},
		{"a list with a number", api.Value{Kind: 4, Num: 1}, false}, {"a list with a text", api.Value{Kind: 4, Text: "a", List: one}, false},
		{"no pairs", table(), true}, {"63 pairs", pairs(63), true}, {"64 pairs", pairs(64), true}, {"65 pairs", pairs(65), false},
		{"a key without a value", table(one...), false}, {"3 values of a map", table(all("1, 2, 3")...), false}, {"127 values of a map", table(pairs(64).List[:127]...), false}, {"129 values of a map", table(pairs(65).List[:129]...), false},
		{"a map with a number", api.Value{Kind: 5, Num: 1}, false}, {"a map with a text", api.Value{Kind: 5, Text: "a"}, false},
		{"Kind 0", api.Value{}, false}, {"Kind 6", api.Value{Kind: 6}, false}, {"Kind -1", api.Value{Kind: -1}, false}, {"Kind least", api.Value{Kind: least}, false}, {"Kind greatest", api.Value{Kind: greatest}, false},
	} {
		for i, v := range []api.Value{
			c.v, list(c.v), list(number(1), c.v), list(c.v, number(1)), table(number(1), c.v), table(c.v, number(1)),
			table(number(least), number(1), c.v, number(1)), table(number(least), c.v, word("z"), number(1)), list(list(table(number(1), list(c.v)))), table(table(c.v, c.v), number(1)),
		} {
			want := c.want && !(i == 6 && alike(c.v, number(least))) // the one key twice
			if Sound(v) != want || plainSound(v) != want {
				t.Errorf("%s, %d: %v, %v; not %v", c.what, i, Sound(v), plainSound(v), want)
			}
		}
	}
}

// The keys of a map rise, each once.
func TestSoundKeys(t *testing.T) {
	rising := all(`-5, 0, 3, false, true, "", "a", "ab", "b", [], [1], [1, 2], [2], [[]], {}, {1: 1}, {1: 2}, {2: 0}`)
	for i, a := range rising {
		for j, b := range rising {
			m := table(a, number(1), b, number(1))
			if Sound(m) != (i < j) {
				t.Errorf("%s", shown(m))
			}
			if Sound(list(m)) != (i < j) || Sound(table(m, m)) != (i < j) || Sound(table(number(0), m)) != (i < j) {
				t.Errorf("%s within another", shown(m))
			}
		}
	}
	for i := range 63 {
		for _, key := range []int{i + 1, i + 2, -1} {
			m := pairs(64)
			m.List[2*i].Num = key
			if want := key == -1 && i == 0; Sound(m) != want || plainSound(m) != want {
				t.Errorf("the key %d at %d: %v", key, i, Sound(m))
			}
		}
	}
}

// What a value may weigh, in whichever of its parts it does.
func TestSoundWeight(t *testing.T) {
	deep := func(n int) api.Value {
		v := list()
		for range n - 1 {
			v = list(v)
		}
		return v
	}
	wide := func(n int) api.Value { // of numbers, on three levels
		v := list()
		for rest := n - 1; rest > 0; {
			row := list()
			for rest--; rest > 0 && len(row.List) < 64; {
				part := list(slices.Repeat(all("5"), min(64, rest-1))...)
				row.List, rest = append(row.List, part), rest-1-len(part.List)
			}
			v.List = append(v.List, row)
		}
		return v
	}
	keys := table()
	for i := range 64 {
		keys.List = append(keys.List, word(fmt.Sprintf("%02d", i)+strings.Repeat("k", 250)), number(0))
	}
	for what, v := range map[string]func(n int) api.Value{
		"texts": func(n int) api.Value { return heavy(16384 - n) },
		"deep":  deep,
		"wide":  wide,
		"both":  func(n int) api.Value { return list(deep(n-8000), wide(7999)) },
		"a key": func(n int) api.Value { return table(wide(n-1-weigh(keys.List[0])), keys.List[0]) },
		"keys":  func(n int) api.Value { return list(keys, long(n-2-weigh(keys))) },
	} {
		for n := 16380; n <= 16390; n++ {
			x := v(n)
			if w := weigh(x); w != n {
				t.Fatalf("%s: it weighs %d, not %d", what, w, n)
			}
			if Sound(x) != (n <= 16384) || plainSound(x) != (n <= 16384) {
				t.Errorf("%s: %d: %v", what, n, Sound(x))
			}
		}
	}
}

func weigh(v api.Value) int {
	n := 1 + len(v.Text)
	for _, x := range v.List {
		n += weigh(x)
	}
	return n
}

// Values whose parts share memory, so that they weigh more than could be weighed; and one as deep as the bound lets.
func TestSoundShared(t *testing.T) {
	v, m, deep := list(), table(), list()
	for range 40 {
		v = list(slices.Repeat(values(v), 64)...)
		m = table(m, m)
	}
	for range 1<<16 - 1 {
		deep = list(deep)
	}
	for _, x := range []api.Value{v, m, deep, list(v), table(number(1), m)} {
		if Sound(x) {
			t.Error("far too heavy")
		}
		if out, o := Run(made("0 0: Const 7, Ret"), values(x), 0, nil, 9); told(out, o) != "-> ErrCode / 0" {
			t.Errorf("%s", told(out, o))
		}
	}
	twice := list(all("1, 2, 3")...)
	if !Sound(list(twice, twice)) {
		t.Error("one list at two places")
	}
}

func TestSoundRandom(t *testing.T) {
	r := newRand(1)
	seen := map[bool]int{}
	for range 10000 {
		v := anyValue(r, 0, 3)
		if !Sound(v) {
			t.Fatalf("%s: not sound", shown(v))
		}
		spoil(r, &v)
		if Sound(v) != plainSound(v) {
			t.Fatalf("%+v: %v", v, Sound(v))
		}
		seen[Sound(v)]++
	}
	if seen[true] < 1000 || seen[false] < 1000 {
		t.Error(seen)
	}
}

// Each instruction.

// someKinds has a value of each kind.
var someKinds = strings.Split(`1|true|"ab"|[7, 8]|{1: 2}`, "|")

func TestMoves(t *testing.T) {
	for _, v := range someKinds {
		for _, other := range someKinds {
			states := other + ", " + v
			wantCode(t, states, "Get 0, Ret", states+" -> "+other+" / 9")
			wantCode(t, states, "Get 1, Ret", states+" -> "+v+" / 9")
			wantCode(t, states, "Get 1, Set 0, Get 0, Ret", v+", "+v+" -> "+v+" / 9")
			wantCode(t, states, "Get 0, Get 1, Set 0, Set 1, Get 1, Ret", v+", "+other+" -> "+other+" / 9")
			wantCode(t, states, "Get 0, Get 1, Pop, Ret", states+" -> "+other+" / 9")
			wantCode(t, states, "Get 0, Get 1, Ret", states+" -> "+v+" / 9") // what else is on the stack plays no part
			args := all(v + ", " + other)
			wantRun(t, made("2 2: Load 0, Ret"), nil, args, 9, "-> "+v+" / 9")
			wantRun(t, made("2 2: Load 1, Ret"), nil, args, 9, "-> "+other+" / 9")
			wantRun(t, made("2 4: Load 2, Ret"), nil, args, 9, "-> 0 / 9")
			wantRun(t, made("2 4: Load 0, Store 3, Load 1, Store 0, Load 3, Store 1, Load 1, Set 0, Load 0, Ret"), all("5"), args, 9, v+" -> "+other+" / 9")
			wantRun(t, made("2 2: Load 0, Load 1, Store 0, Ret"), nil, args, 9, "-> "+v+" / 9") // what was loaded stays
		}
	}
	for _, v := range []string{"5", "-5", "0", "true", "false", `""`, `"ab"`, "[]", "{}"} {
		wantCode(t, "", "Const "+v+", Ret", "-> "+v+" / 9")
		wantCode(t, "[1]", "Const "+v+", Set 0, Const 5, Ret", v+" -> 5 / 9")
	}
	wantRun(t, made("0 256: Load 255, Load 0, Binary ==, Ret"), nil, nil, 9, "-> true / 9")
	wantRun(t, made("8 8: Load 7, Load 0, Binary -, Ret"), nil, all("1, 2, 3, 4, 5, 6, 7, 80"), 9, "-> 79 / 9")
}

// wantTable asks what an instruction answers of two values, of every kind each: a row for each first one.
func wantTable(t *testing.T, op string, rows ...string) {
	t.Helper()
	for i, first := range someKinds {
		row := strings.Split(rows[i], " | ")
		if len(row) == 1 {
			row = slices.Repeat(row, 5)
		}
		for j, second := range someKinds {
			states := first + ", " + second
			wantCode(t, states, "Get 0, Get 1, "+op+", Ret", states+" -> "+row[j]+" / 9")
		}
	}
}

func TestOfOne(t *testing.T) {
	for op, row := range map[string]string{
		"Neg": "-1 | ErrCode | ErrCode | ErrCode | ErrCode",
		"Not": "ErrCode | false | ErrCode | ErrCode | ErrCode",
		"Len": "ErrCode | ErrCode | 2 | 2 | 1",
		"Str": `"1" | ErrCode | ErrCode | ErrCode | ErrCode`,
	} {
		for i, want := range strings.Split(row, " | ") {
			wantCode(t, someKinds[i], "Get 0, "+op+", Ret", someKinds[i]+" -> "+want+" / 9")
		}
	}
	wantCode(t, "false", "Get 0, Not, Ret", "false -> true / 9")
	wantCode(t, "false", "Get 0, Not, Not, Ret", "false -> false / 9")
	wantCode(t, fmt.Sprint(least), "Get 0, Neg, Ret", fmt.Sprint(least, " -> ErrOver / 9"))
	wantCode(t, fmt.Sprint(least), "Get 0, Str, Ret", fmt.Sprintf("%d -> %q / 9", least, fmt.Sprint(least)))
	wantCode(t, `"", [], {}`, "Get 0, Len, Get 1, Len, Get 2, Len, Binary +, Binary +, Ret", `"", [], {} -> 0 / 9`)
}

func TestOfTwo(t *testing.T) {
	none := "ErrCode"
	wantTable(t, "Has", none, none, none, none, "true | false | false | false | false")
	wantTable(t, "At", none, none, none, "8 | ErrCode | ErrCode | ErrCode | ErrCode", "2 | ErrKey | ErrKey | ErrKey | ErrKey")
	wantTable(t, "Push", none, none, none, `[7, 8, 1] | [7, 8, true] | [7, 8, "ab"] | [7, 8, [7, 8]] | [7, 8, {1: 2}]`, none)
	wantTable(t, "Del", none, none, none, none, "{} | {1: 2} | {1: 2} | {1: 2} | {1: 2}")
	for _, x := range someKinds {
		rows := slices.Repeat([]string{none}, 3)
		rows = append(rows, "[7, #] | ErrCode | ErrCode | ErrCode | ErrCode", `{1: #} | {1: 2, true: #} | {1: 2, "ab": #} | {1: 2, [7, 8]: #} | {1: 2, {1: 2}: #}`)
		for i := range rows {
			rows[i] = strings.ReplaceAll(rows[i], "#", x)
		}
		if strings.Trim(x, "0123456789truefals") == "" {
			wantTable(t, "Const "+x+", Put", rows...)
		}
		for i, first := range someKinds {
			for j, second := range someKinds {
				states := first + ", " + second + ", " + x
				want := append(strings.Split(rows[i], " | "), slices.Repeat([]string{none}, 4)...)[j]
				wantCode(t, states, "Get 0, Get 1, Get 2, Put, Ret", states+" -> "+want+" / 9")
			}
		}
	}
}

// Each operator of two values of every kind.
func TestBinary(t *testing.T) {
	for i, mark := range opMarks {
		var rows []string
		for j := range someKinds {
			row := slices.Repeat([]string{"ErrCode"}, 5)
			if i < 2 {
				row = slices.Repeat([]string{fmt.Sprint(mark == "!=")}, 5)
				row[j] = fmt.Sprint(mark == "==")
			} else if j == 0 {
				row[j] = strings.Fields("false true false true 2 0 1 1 0")[i-2]
			} else if j == 2 && i < 7 {
				row[j] = strings.Fields(`false true false true "abab"`)[i-2]
			}
			rows = append(rows, strings.Join(row, " | "))
		}
		wantTable(t, "Binary "+mark, rows...)
	}
	for _, c := range []struct{ states, mark, want string }{
		{"7, 2", "-", "5"}, {"2, 7", "-", "-5"}, {"-7, 2", "/", "-3"}, {"-7, 2", "%", "-1"}, {"2, -7", "/", "0"}, {"7, 0", "/", "ErrZero"}, {"7, 0", "%", "ErrZero"}, {"0, 7", "/", "0"},
		{"9223372036854775807, 1", "+", "ErrOver"}, {"-9223372036854775808, 1", "-", "ErrOver"}, {"4611686018427387904, 2", "*", "ErrOver"}, {"-9223372036854775808, -1", "/", "ErrOver"}, {"-9223372036854775808, -1", "%", "0"}, {"-9223372036854775808, -1", "*", "ErrOver"}, {"9223372036854775807, 0", "+", "9223372036854775807"},
		{"1, 2", "<", "true"}, {"2, 1", "<", "false"}, {"1, 2", ">=", "false"}, {"2, 1", ">", "true"}, {"1, 2", "<=", "true"}, {`"a", "b"`, "<", "true"}, {`"b", "a"`, "<=", "false"}, {`"b", "a"`, "+", `"ba"`},
		{"[1, 2], [1, 2]", "==", "true"}, {"[1, 2], [1]", "!=", "true"}, {"{1: 2}, {1: 3}", "==", "false"}, {"[], {}", "==", "false"}, {"[], {}", "<", "ErrCode"}, {"true, false", "<", "ErrCode"},
	} {
		wantCode(t, c.states, "Get 0, Get 1, Binary "+c.mark+", Ret", c.states+" -> "+c.want+" / 9")
	}
}

// What grows too great.
func TestTooMuch(t *testing.T) {
	texts := func(n, bytes int) api.Value { return list(slices.Repeat(values(long(bytes)), n)...) }
	for _, c := range []struct {
		body   string
		states []api.Value
		want   string
	}{
		{"Get 0, Get 1, Push, Len, Ret", values(texts(63, 1), long(1)), "64"},
		{"Get 0, Get 1, Push, Len, Ret", values(texts(64, 1), long(1)), "ErrSize"},
		{"Get 0, Get 1, Push, Len, Ret", values(texts(63, 256), long(191)), "64"},
		{"Get 0, Get 1, Push, Len, Ret", values(texts(63, 256), long(192)), "ErrSize"},
		{"Get 0, Const 62, Get 1, Put, Len, Ret", values(heavy(1), long(256)), "64"},
		{"Get 0, Const 63, Get 1, Put, Len, Ret", values(heavy(1), long(191)), "64"},
		{"Get 0, Const 63, Get 1, Put, Len, Ret", values(heavy(1), long(192)), "ErrSize"},
		{"Get 0, Const 64, Get 1, Put, Len, Ret", values(heavy(1), long(0)), "ErrKey"},
		{"Get 0, Const -1, Get 1, Put, Len, Ret", values(heavy(1), long(0)), "ErrKey"},
		{"Get 0, Const 64, Get 1, Put, Len, Ret", values(pairs(63), long(0)), "64"},
		{"Get 0, Const 64, Get 1, Put, Len, Ret", values(pairs(64), long(0)), "ErrSize"},
		{"Get 0, Const 63, Get 1, Put, Len, Ret", values(pairs(64), long(0)), "64"},
		{"Get 0, Get 1, Const 0, Put, Len, Ret", values(table(number(0), texts(63, 256)), long(188)), "2"},
		{"Get 0, Get 1, Const 0, Put, Len, Ret", values(table(number(0), texts(63, 256)), long(189)), "ErrSize"},
		{"Get 0, Get 1, Binary +, Len, Ret", values(long(100), long(156)), "256"},
		{"Get 0, Get 1, Binary +, Len, Ret", values(long(100), long(157)), "ErrSize"},
		{"Get 0, Get 0, Binary +, Len, Ret", values(long(256)), "ErrSize"},
		{"Get 0, Get 0, Push, Len, Ret", values(list(texts(32, 256), number(1))), "ErrSize"},
		{"Get 0, Get 0, Push, Get 0, Push, Len, Ret", values(texts(20, 256)), "22"},
		{"Get 0, Get 0, Push, Get 0, Push, Get 0, Push, Len, Ret", values(texts(20, 256)), "ErrSize"},
	} {
		wantRun(t, made("0 0: "+c.body), c.states, nil, 9, shownAll(c.states)+" -> "+c.want+" / 9")
	}
}

func TestWays(t *testing.T) {
	for _, v := range someKinds {
		want := "ErrCode / 9"
		if v == "true" {
			want = "1 / 9"
		}
		for _, body := range []string{"Get 0, Unless 4, Const 1, Ret, Const 2, Ret", "Jump 1, Get 0, Unless 1, Const 1, Ret", "Jump 1, Get 0, Unless 0, Const 1, Ret"} { // whichever way it would go
			wantCode(t, v, body, v+" -> "+want)
		}
	}
	wantCode(t, "false", "Get 0, Unless 4, Const 1, Ret, Const 2, Ret", "false -> 2 / 9")
	wantCode(t, "", "Jump 3, Const 1, Ret, Const 2, Ret", "-> 2 / 9")
	wantCode(t, "", "Jump 1, Jump 2, Const 2, Ret", "-> 2 / 9")
	wantCode(t, "false", "Get 0, Unless 2, Const 2, Ret", "false -> 2 / 9")
	// The height and what lies beneath stay.
	wantCode(t, "5, false", "Get 0, Get 1, Unless 5, Pop, Const 1, Ret", "5, false -> 5 / 9")
	wantCode(t, "5, true", "Get 0, Get 1, Unless 5, Pop, Const 1, Ret", "5, true -> 1 / 9")
}

func TestCalls(t *testing.T) {
	sub := "2 2: Load 0, Load 1, Binary -, Ret"
	wantRun(t, made(sub, "0 0: Const 10, Const 3, Call 0, Ret"), nil, nil, 9, "-> 7 / 8")
	wantRun(t, made(sub, "0 0: Const 50, Const 10, Const 3, Call 0, Binary -, Ret"), nil, nil, 9, "-> 43 / 8") // what lies beneath stays
	wantRun(t, made(sub, "0 1: Const 1, Store 0, Const 10, Const 3, Call 0, Load 0, Binary -, Ret"), nil, nil, 9, "-> 6 / 8")
	wantRun(t, made("1 2: Load 1, Const 5, Store 1, Ret", "0 0: Const 1, Call 0, Const 1, Call 0, Binary +, Ret"), nil, nil, 9, "-> 0 / 7") // locals are new each time
	wantRun(t, made("1 1: Const 9, Store 0, Const 0, Ret", "1 1: Load 0, Load 0, Call 0, Pop, Load 0, Binary +, Ret"), nil, all("4"), 9, "-> 8 / 8")
	wantRun(t, made("0 0: Const 1, Const 2, Const 3, Ret", "0 0: Call 0, Call 0, Binary -, Ret"), nil, nil, 9, "-> 0 / 7") // only the answer is pushed
	wantRun(t, made("0 0: Const 5, Set 0, Get 1, Ret", "0 0: Get 0, Call 0, Get 0, Push, Ret"), all("[3], [4]"), nil, 9, "5, [4] -> [4, 5] / 8")
	eight := "8 8: Load 0, Load 1, Binary -, Load 7, Binary -, Ret"
	wantRun(t, made(eight, "0 0: Const 100, Const 1, Const 2, Const 3, Const 4, Const 5, Const 6, Const 7, Call 0, Ret"), nil, nil, 9, "-> 92 / 8")
	for _, v := range someKinds {
		wantRun(t, made("1 1: Load 0, Ret", "1 1: Load 0, Call 0, Ret"), nil, all(v), 9, "-> "+v+" / 8")
	}
	chain := []string{"1 1: Load 0, Const 1, Binary +, Ret"}
	for i := range 31 {
		chain = append(chain, fmt.Sprintf("1 1: Load 0, Const 1, Binary +, Call %d, Ret", i))
	}
	wantRun(t, made(chain...), nil, all("0"), 31, "-> 32 / 0")
	wantRun(t, made(chain...), nil, all("0"), 30, "-> ErrFuel / 0")
}

// Any function can be run, by its number.
func TestNumbers(t *testing.T) {
	m := made("0 0: Const 10, Ret", "1 1: Load 0, Ret", "0 0: Call 0, Ret", "2 2: Load 1, Ret")
	for n, want := range []string{"-> 10 / 5", "-> 1 / 5", "-> 10 / 4", "-> 2 / 5"} {
		out, o := Run(m, nil, n, all("1, 2")[:m.Funcs[n].Params], 5)
		if got := told(out, o); got != want {
			t.Errorf("%d: %s; not %s", n, got, want)
		}
	}
}

// Zero and Stack play no part.
func TestNoPart(t *testing.T) {
	m := made("0 0: Const 1, Const 2, Binary +, Ret")
	for zero := range len(m.Consts) {
		for _, stack := range []int{2, 3, 255, 256} {
			m.Funcs[0].Zero, m.Funcs[0].Stack = zero, stack
			wantRun(t, m, nil, nil, 9, "-> 3 / 9")
		}
	}
	high := "Const 1"
	for range 255 {
		high += ", Const 1"
	}
	wantCode(t, "", high+strings.Repeat(", Binary +", 255)+", Ret", "-> 256 / 9")
}

// Fuel.

// wantUnits asks how many units a run takes: with just as many it answers, with fewer there is none left.
func wantUnits(t *testing.T, m api.Module, states, args []api.Value, units int, want string) {
	t.Helper()
	before := shownAll(states)
	for fuel := range 4100 {
		if fuel > units+3 && fuel < 4093 {
			continue
		}
		if fuel < units {
			wantRun(t, m, states, args, fuel, strings.TrimPrefix(before+" -> ErrFuel / 0", " "))
		} else {
			wantRun(t, m, states, args, fuel, fmt.Sprint(want, " / ", min(fuel, 4096)-units))
		}
	}
}

func TestUnits(t *testing.T) {
	for _, c := range []struct {
		lines []string
		units int
		want  string
	}{
		{[]string{"0 0: Const 1, Set 0, Const 5, Ret"}, 0, "1 -> 5"},
		{[]string{"0 0: Charge 0, Const 5, Ret"}, 0, "0 -> 5"},
		{[]string{"0 0: Charge 1, Const 5, Ret"}, 1, "0 -> 5"},
		{[]string{"0 0: Charge 7, Charge 0, Charge 4, Const 5, Ret"}, 11, "0 -> 5"},
		{[]string{"0 0: Charge 4096, Const 5, Ret"}, 4096, "0 -> 5"},
		{[]string{"0 0: Jump 1, Jump 2, Const 5, Ret"}, 0, "0 -> 5"},
		{[]string{"0 0: Jump 3, Const 5, Ret, Jump 1"}, 1, "0 -> 5"},
		{[]string{"0 0: Jump 5, Const 5, Ret, Jump 1, Jump 3, Jump 4"}, 3, "0 -> 5"},
		{[]string{"0 0: Const false, Unless 2, Const 5, Ret"}, 0, "0 -> 5"},
		{[]string{"0 0: Jump 3, Const 5, Ret, Const false, Unless 1, Const 6, Ret"}, 1, "0 -> 5"},
		{[]string{"0 0: Jump 3, Const 5, Ret, Const true, Unless 1, Const 6, Ret"}, 0, "0 -> 6"}, // a way that isn't gone isn't charged
		{[]string{"0 0: Get 0, Const 1, Binary +, Set 0, Get 0, Const 5, Binary ==, Unless 0, Get 0, Ret"}, 4, "5 -> 5"},
		{[]string{"0 0: Get 0, Const 5, Binary <, Unless 9, Get 0, Const 1, Binary +, Set 0, Jump 0, Get 0, Ret"}, 5, "5 -> 5"},
		{[]string{"0 0: Const 5, Ret", "0 0: Call 0, Ret"}, 1, "0 -> 5"},
		{[]string{"0 0: Const 5, Ret", "0 0: Call 0, Ret", "0 0: Call 1, Call 0, Call 1, Binary +, Binary +, Ret"}, 5, "0 -> 15"},
		{[]string{"0 0: Charge 2, Const 5, Ret", "0 0: Call 0, Charge 3, Ret"}, 6, "0 -> 5"},
		{[]string{"0 0: Const 5, Ret", "0 0: Const 5, Pop, Jump 5, Const 8, Ret, Jump 3"}, 1, "0 -> 8"},
	} {
		wantUnits(t, made(c.lines...), all("0"), nil, c.units, c.want)
	}
}

// What is left behind a trap that isn't of fuel; and that fuel is asked for first, or last.
func TestOrder(t *testing.T) {
	for _, c := range []struct {
		lines []string
		fuel  int
		want  string
	}{
		{[]string{"0 0: Charge 3, Const 1, Const 0, Binary /, Ret"}, 9, "5 -> ErrZero / 6"},
		{[]string{"0 0: Charge 3, Const 1, Const 0, Binary /, Ret"}, 3, "5 -> ErrZero / 0"},
		{[]string{"0 0: Charge 3, Const 1, Const 0, Binary /, Ret"}, 2, "5 -> ErrFuel / 0"},
		{[]string{"0 0: Const 1, Const 0, Binary /, Charge 3, Ret"}, 2, "5 -> ErrZero / 2"},
		{[]string{"0 0: Charge 10, Const 1, Ret"}, 9, "5 -> ErrFuel / 0"},
		{[]string{"0 0: Charge 1099511627776, Const 1, Ret"}, 4096, "5 -> ErrFuel / 0"},
		{[]string{"0 0: Charge 4097, Const 1, Ret"}, 5000, "5 -> ErrFuel / 0"},
		{[]string{"0 0: Const 1, Const 0, Binary /, Ret", "0 0: Call 0, Ret"}, 1, "5 -> ErrZero / 0"},
		{[]string{"0 0: Const 1, Const 0, Binary /, Ret", "0 0: Call 0, Ret"}, 0, "5 -> ErrFuel / 0"},
		{[]string{"1 1: Load 0, Ret", "0 0: Const 1, Not, Call 0, Ret"}, 0, "5 -> ErrCode / 0"},
		{[]string{"0 0: Jump 3, Const 8, Ret, Get 0, Unless 1, Const 9, Ret"}, 0, "5 -> ErrCode / 0"}, // 5 is no truth, so there is no way back
		{[]string{"0 0: Jump 3, Const 8, Ret, Get 0, Unless 1, Const 9, Ret"}, 7, "5 -> ErrCode / 7"},
		{[]string{"0 0: Jump 4, Const 7, Not, Ret, Jump 1"}, 0, "5 -> ErrFuel / 0"},
		{[]string{"0 0: Jump 4, Const 7, Not, Ret, Jump 1"}, 1, "5 -> ErrCode / 0"},
	} {
		wantRun(t, made(c.lines...), all("5"), nil, c.fuel, c.want)
	}
}

// Below 0 fuel counts as none, above MaxFuel as that.
func TestFuelCounts(t *testing.T) {
	for fuel, counts := range map[int]int{least: 0, least + 1: 0, -4096: 0, -1: 0, 0: 0, 1: 1, 2: 2, 4095: 4095, 4096: 4096, 4097: 4096, 5000: 4096, 1 << 40: 4096, greatest - 1: 4096, greatest: 4096} {
		wantRun(t, made("0 0: Const 7, Ret"), nil, nil, fuel, fmt.Sprint("-> 7 / ", counts))
		wantRun(t, made("0 0: Const 7, Not, Ret"), nil, nil, fuel, fmt.Sprint("-> ErrCode / ", counts))
		wantRun(t, made("0 0: Jump 0"), nil, nil, fuel, "-> ErrFuel / 0")
		// It counts its turns in the state till the fuel is used up but for one.
		turns := "1 1: Get 0, Load 0, Binary <, Unless 9, Get 0, Const 1, Binary +, Set 0, Jump 0, Get 0, Ret"
		wantRun(t, made(turns), all("0"), values(number(counts)), fuel, fmt.Sprintf("%d -> %d / 0", counts, counts))
		wantRun(t, made(turns), all("0"), values(number(counts+1)), fuel, "0 -> ErrFuel / 0")
	}
}

// As long as a run can be: every way back leads to the beginning of the longest code.
func TestLongest(t *testing.T) {
	f := api.Func{Stack: 1, Code: slices.Repeat([]api.Instr{{Op: code.Charge}}, 1<<14)}
	f.Code[1<<14-1] = api.Instr{Op: code.Jump}
	m := api.Module{Consts: all("7"), Funcs: []api.Func{f}}
	if out, o := Run(m, nil, 0, nil, 4096); told(out, o) != "-> ErrFuel / 0" {
		t.Errorf("%s", told(out, o))
	}
}

// A trap leaves the states.

func TestUndone(t *testing.T) {
	states := all(`1, true, "ab", [7, 8], {1: 2}`)
	before := shownAll(states)
	for trap, e := range map[string]string{
		"Const 1, Const 0, Binary /, Pop":                        "ErrZero",
		"Const 1, Not, Pop":                                      "ErrCode",
		"Const 1, Unless 99":                                     "ErrCode",
		"Const [], Const 0, At, Pop":                             "ErrKey",
		"Charge 4096, Charge 1":                                  "ErrFuel",
		"Const 9223372036854775807, Neg, Const 2, Binary -, Pop": "ErrOver",
		"Get 5, Get 5, Binary +, Pop":                            "ErrSize",
	} {
		set := "Const 50, Set 0, Get 2, Set 1, Const 7, Set 2, Get 3, Const 1, Push, Set 3, Get 4, Const 9, Const 3, Put, Set 4, Get 4, Const 1, Del, Set 4, "
		for i, lines := range [][]string{
			{"0 0: " + trap + ", " + set + "Const 1, Ret"},
			{"0 0: " + set + trap + ", Const 1, Ret"},
			{"0 0: " + set + "Const 1, Ret", "0 0: Call 0, Pop, " + trap + ", Const 1, Ret"},
			{"0 0: " + trap + ", Const 1, Ret", "0 0: " + set + "Call 0, Ret"},
			{"0 0: " + set + trap + ", Const 1, Ret", "0 0: Call 0, Ret", "0 0: Call 1, Ret"},
			{"0 0: " + set + trap + ", Const 1, Ret", "0 0: " + set + "Call 0, Ret", "0 0: " + set + "Call 1, Ret"},
			{"0 0: " + set + "Const 1, Ret", "0 0: Call 0, Pop, " + trap + ", Const 1, Ret", "0 0: " + set + "Call 0, Call 1, Binary +, Ret"},
		} {
			for j, line := range lines { // where the Unless may go: to its function's last two instructions
				lines[j] = strings.Replace(line, "Unless 99", fmt.Sprint("Unless ", strings.Count(line, ", ")-1), 1)
			}
			m := made(lines...)
			with := append(slices.Clone(states), long(200))
			out, o := Run(m, with, len(lines)-1, nil, 4096)
			if got := told(out[:5], o); !strings.HasPrefix(got, before+" -> "+e+" / ") || !alike(out[5], with[5]) || len(out) != 6 {
				t.Errorf("%s, %d: %s; not %s", trap, i, got, e)
			}
			if plainOut, plainTold := plainRun(m, with, len(lines)-1, nil, 4096, map[int]int{}); !allAlike(out, plainOut) || !sameOutcome(o, plainTold) {
				t.Errorf("%s, %d: %s; not %s", trap, i, told(out, o), told(plainOut, plainTold))
			}
		}
	}
}

// With every fuel: all is done, or nothing.
func TestAllOrNothing(t *testing.T) {
	m := made("1 1: Get 0, Load 0, Push, Set 0, Load 0, Ret", "1 1: Load 0, Call 0, Load 0, Call 0, Binary +, Ret", "0 0: Const 1, Call 1, Charge 2, Const 2, Call 1, Set 1, Const 3, Call 0, Ret")
	wantUnits(t, m, all("[], 0"), nil, 9, "[1, 1, 2, 2, 3], 4 -> 3")
}

// Wrong inputs.

// wantNone asks that a run can't be.
func wantNone(t *testing.T, what string, m api.Module, states []api.Value, n int, args []api.Value) {
	t.Helper()
	for _, fuel := range []int{least, 0, 9, 5000} {
		out, o := Run(m, states, n, args, fuel)
		if len(out) != 0 || !sameOutcome(o, api.Outcome{Err: api.ErrCode}) {
			t.Errorf("%s: %s", what, told(out, o))
		}
	}
}

func TestWrongModules(t *testing.T) {
	good := func() api.Module {
		return made("1 1: Load 0, Ret", "1 2: Get 0, Load 0, Call 0, Binary +, Set 1, Jump 6, Const 5, Ret")
	}
	states, args := all("1, 2"), all("3")
	wantRun(t, good(), states, args, 9, "1, 4 -> 5 / 8")
	for _, c := range []struct {
		what  string
		spoil func(m *api.Module)
	}{
		{"no functions", func(m *api.Module) { m.Funcs = nil }},
		{"no constants", func(m *api.Module) { m.Consts = nil }},
		{"a constant of no kind", func(m *api.Module) { m.Consts[0] = api.Value{} }},
		{"a constant with elements", func(m *api.Module) { m.Consts[0] = all("[1]")[0] }},
		{"a constant too long", func(m *api.Module) { m.Consts[0] = long(257) }},
		{"a truth of 2", func(m *api.Module) { m.Consts[0] = api.Value{Kind: 2, Num: 2} }},
		{"too many constants", func(m *api.Module) { m.Consts = slices.Repeat(all("7"), 1<<14+1) }},
		{"too many functions", func(m *api.Module) { m.Funcs = slices.Repeat(m.Funcs[:1], 33) }},
		{"another function without code", func(m *api.Module) { m.Funcs[0].Code = nil }},
		{"another function without a Ret", func(m *api.Module) { m.Funcs[0].Code = m.Funcs[0].Code[:1] }},
		{"another function with a Stack of 0", func(m *api.Module) { m.Funcs[0].Stack = 0 }},
		{"a Stack of 257", func(m *api.Module) { m.Funcs[1].Stack = 257 }},
		{"a Stack too low", func(m *api.Module) { m.Funcs[1].Stack = 1 }},
		{"fewer locals than params", func(m *api.Module) { m.Funcs[1].Locals = 0 }},
		{"257 locals", func(m *api.Module) { m.Funcs[1].Locals = 257 }},
		{"a Zero that isn't there", func(m *api.Module) { m.Funcs[1].Zero = 2 }},
		{"a call of itself", func(m *api.Module) { m.Funcs[1].Code[2].A = 1 }},
		{"a state that isn't there", func(m *api.Module) { m.Funcs[1].Code[0].A = 2 }},
		{"a local that isn't there", func(m *api.Module) { m.Funcs[1].Code[1].A = 2 }},
		{"a constant that isn't there", func(m *api.Module) { m.Funcs[1].Code[6].A = 2 }},
		{"a place that isn't there", func(m *api.Module) { m.Funcs[1].Code[5].A = 8 }},
		{"a place below 0", func(m *api.Module) { m.Funcs[1].Code[5].A = -1 }},
		{"a place with two heights", func(m *api.Module) { m.Funcs[1].Code[5].A = 7 }},
		{"an operator that isn't there", func(m *api.Module) { m.Funcs[1].Code[3].A = 2 }},
		{"an Op that isn't there", func(m *api.Module) { m.Funcs[1].Code[5].Op = 22 }},
		{"Op 0", func(m *api.Module) { m.Funcs[1].Code[5].Op = 0 }},
		{"Op -1", func(m *api.Module) { m.Funcs[1].Code[5].Op = -1 }},
		{"a Ret of 1", func(m *api.Module) { m.Funcs[1].Code[7].A = 1 }},
		{"an end without a Ret", func(m *api.Module) { m.Funcs[1].Code = m.Funcs[1].Code[:7] }},
		{"an empty stack", func(m *api.Module) { m.Funcs[1].Code[0].Op = code.Set }},
	} {
		m := good()
		c.spoil(&m)
		if code.Verify(m, 2) == api.OK && len(m.Funcs) > 1 {
			t.Errorf("%s: it can be run", c.what)
		}
		for n := range 2 {
			wantNone(t, c.what, m, states, n, args)
		}
	}
	wantNone(t, "too few states", good(), states[:1], 1, args)
	wantNone(t, "no states", good(), nil, 0, args)
	wantNone(t, "33 states", good(), slices.Repeat(states[:1], 33), 1, args)
	if out, o := Run(good(), slices.Repeat(states[:1], 32), 1, args, 9); len(out) != 32 || o.Err != api.OK || out[1].Num != 4 {
		t.Errorf("32 states: %s", told(out, o))
	}
	wantNone(t, "nothing", api.Module{}, nil, 0, nil)
}

func TestWrongCalls(t *testing.T) {
	m := made("0 0: Const 1, Ret", "1 2: Const 1, Ret", "8 8: Const 1, Ret")
	eight := all("1, 2, 3, 4, 5, 6, 7, 8, 9")
	for _, n := range []int{-1, 3, 4, 32, least, greatest} {
		for k := range eight {
			wantNone(t, fmt.Sprint("function ", n), m, nil, n, eight[:k])
		}
	}
	for n, f := range m.Funcs {
		for k := range len(eight) + 1 {
			if k != f.Params {
				wantNone(t, fmt.Sprint(k, " arguments of ", n), m, nil, n, eight[:k])
			} else if _, o := Run(m, nil, n, eight[:k], 9); o.Err != api.OK {
				t.Errorf("%d arguments of %d: %+v", k, n, o)
			}
		}
	}
}

// Values that aren't sound, at every place, whether anything looks at them or not.
func TestWrongValues(t *testing.T) {
	m := made("3 3: Const 1, Ret")
	for i, bad := range []api.Value{
		{}, {Kind: 6}, {Kind: -1}, {Kind: 2, Num: 2}, {Kind: 1, Text: "a"}, {Kind: 1, List: all("1")}, {Kind: 3, Num: 1}, long(257), {Kind: 4, Num: 1}, {Kind: 5, Text: "a"},
		list(slices.Repeat(all("1"), 65)...), pairs(65), heavy(-1), table(all("1")...), table(all("2, 0, 1, 0")...), table(all("1, 0, 1, 0")...), list(api.Value{}), table(number(1), list(long(257))), table(list(long(257)), number(1)),
	} {
		for at := range 3 {
			fine, wrong := all("1, [2], {3: 4}"), all(`"a", true, {}`)
			if _, o := Run(m, wrong, 0, fine, 9); o.Err != api.OK {
				t.Errorf("%+v", o)
			}
			wrong[at] = bad
			wantNone(t, fmt.Sprint("value ", i, " as the state ", at), m, wrong, 0, fine)
			wantNone(t, fmt.Sprint("value ", i, " as the argument ", at), m, fine, 0, wrong)
		}
	}
	for _, good := range []api.Value{heavy(0), heavy(1), pairs(64), list(slices.Repeat(all("1"), 64)...), long(256)} {
		out, o := Run(made("1 1: Get 0, Load 0, Set 0, Ret"), values(good), 0, values(good), 9)
		if o.Err != api.OK || !alike(o.Value, good) || !allAlike(out, values(good)) {
			t.Errorf("%s", told(out, o))
		}
	}
}
