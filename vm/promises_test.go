package vm

import (
	"cmp"
	"fmt"
	"regexp"
	"slices"
	"strings"
	"testing"
	"unsafe"

	"quern/api"
	"quern/code"
	"quern/gen"
	"quern/opt"
	"quern/parse"
	"quern/sem"
	"quern/types"
	"quern/value"
)

// P15.1 and P15.3, by chance.

// look asks that a run answers what the plain machine does, and that sound states lead to sound states; and answers what it answers.
func look(t *testing.T, m api.Module, states []api.Value, n int, args []api.Value, fuel int, seen map[int]int) ([]api.Value, api.Outcome) {
	t.Helper()
	out, o := Run(m, states, n, args, fuel)
	want, wanted := plainRun(m, states, n, args, fuel, seen)
	if !allAlike(out, want) || !sameOutcome(o, wanted) {
		t.Fatalf("%+v: %d(%s) of %s with %d: %s; not %s", m, n, shownAll(args), shownAll(states), fuel, told(out, o), told(want, wanted))
	}
	if len(want) != len(states) {
		return out, o
	}
	for _, v := range out {
		if !plainSound(v) {
			t.Fatalf("%+v: %d(%s) of %s with %d: %s: not sound", m, n, shownAll(args), shownAll(states), fuel, told(out, o))
		}
	}
	if o.Err == api.OK && !plainSound(o.Value) {
		t.Fatalf("%+v: %s: not sound", m, told(out, o))
	}
	return out, o
}

// lookAll does so with much fuel, just enough, one too few, none, and others; of the run with much it answers what that answers.
func lookAll(t *testing.T, m api.Module, states []api.Value, n int, args []api.Value, seen map[int]int, others ...int) ([]api.Value, api.Outcome) {
	t.Helper()
	out, o := look(t, m, states, n, args, 4096, seen)
	spent := 4096 - o.Fuel
	for _, fuel := range append([]int{spent, spent - 1, spent + 1, spent / 2, 0, 1, -1, 5000}, others...) {
		look(t, m, states, n, args, fuel, seen)
	}
	return out, o
}

func TestRandomModules(t *testing.T) {
	c := coder{r: newRand(2)}
	seen, ops, changed := map[api.Errno]int{}, map[int]int{}, 0
	for range 1000 {
		c.make()
		c.wantModule(t)
		states := c.of(c.states)
		for range 5 {
			n := c.r.IntN(len(c.module.Funcs))
			out, o := lookAll(t, c.module, states, n, c.of(c.params[n]), ops, c.r.IntN(10), c.r.IntN(100))
			seen[o.Err]++
			if !allAlike(out, states) {
				changed++
			}
			states = out
		}
	}
	for _, e := range []api.Errno{api.OK, api.ErrOver, api.ErrZero, api.ErrKey, api.ErrSize, api.ErrFuel, api.ErrCode} {
		if seen[e] < 40 {
			t.Errorf("error %d: too few: %d", e, seen[e])
		}
	}
	for op := code.Const; op <= code.Del; op++ {
		if ops[op] < 500 {
			t.Errorf("%s: too few: %d", opNames[op-1], ops[op])
		}
	}
	if changed < 300 {
		t.Error("too little is changed:", changed)
	}
}

// Modules, numbers, values with something wrong.
func TestRandomWrong(t *testing.T) {
	c := coder{r: newRand(3)}
	seen := map[bool]int{}
	for range 3000 {
		c.make()
		n := c.r.IntN(len(c.module.Funcs))
		states, args := c.of(c.states), c.of(c.params[n])
		switch c.r.IntN(6) {
		case 0:
			n += pick(c.r, []int{-1, 1, 2, 30, least, greatest})
		case 1:
			args = append(args, c.of([]int{1})...)
		case 2:
			states = states[:len(states)/2]
		case 3:
			if l := slices.Concat(states, args); len(l) > 0 {
				spoil(c.r, &l[c.r.IntN(len(l))])
				states, args = l[:len(states)], l[len(states):]
			}
		default:
			f := &c.module.Funcs[c.r.IntN(len(c.module.Funcs))]
			in := &f.Code[c.r.IntN(len(f.Code))]
			in.Op, in.A = in.Op+c.r.IntN(3)-1, in.A+c.r.IntN(3)-1
		}
		out, o := look(t, c.module, states, n, args, 50, map[int]int{})
		seen[len(states) > 0 && len(out) == 0 && sameOutcome(o, api.Outcome{Err: api.ErrCode})]++
	}
	if seen[true] < 1000 || seen[false] < 1000 {
		t.Error(seen)
	}
}

// From sound states that are full, by what makes them more and less, over and over.
func TestSoundForEver(t *testing.T) {
	r := newRand(4)
	m := made("2 2: Get 0, Load 0, Push, Set 0, Get 0, Ret", "3 3: Get 1, Load 0, Load 1, Put, Set 1, Get 1, Ret", "3 3: Get 0, Load 2, Load 1, Put, Set 0, Get 0, Ret", "1 1: Get 1, Load 0, Del, Set 1, Get 1, Ret",
		"1 1: Get 2, Load 0, Binary +, Set 2, Get 2, Ret", "0 0: Get 0, Get 1, Push, Set 0, Get 0, Ret", "0 0: Get 1, Get 0, Get 0, Put, Set 1, Get 2, Ret", "0 0: Const [], Set 0, Const \"\", Set 2, Get 0, Ret")
	states, seen := all(`[], {}, ""`), map[api.Errno]int{}
	for range 1500 {
		n := r.IntN(len(m.Funcs))
		if n == 7 && r.IntN(30) > 0 {
			n = 1
		}
		args := values(anyValue(r, 0, 3), anyValue(r, 0, 3), number(r.IntN(70)))[:m.Funcs[n].Params]
		var o api.Outcome
		states, o = look(t, m, states, n, args, 0, map[int]int{})
		seen[o.Err]++
	}
	if seen[api.OK] < 300 || seen[api.ErrSize] < 100 || seen[api.ErrKey] < 50 || seen[api.ErrCode] < 50 {
		t.Error(seen)
	}
}

// P15.2

// forms says what the parts of a program may be: other parts stand between < and >, a mark # is a new number. The states are n, b, s, l, m and q, the params x, y and z.
func forms() map[string][]string {
	split := func(s string) []string { return strings.Split(s, " | ") }
	return map[string][]string{
		"int":   split("n | x | 0 | 1 | 2 | 7 | 9223372036854775807 | (<int> + <int>) | (<int> - <int>) | (<int> * <int>) | (<int> / <int>) | (<int> % <int>) | -<int> | len(<text>) | len(<list>) | len(m) | <list>[<int>] | <list>[0] | m[<text>] | q[x][<int>]"),
		"bool":  append(split("b | y | true | false | (<int> == <int>) | (<int> != <int>) | (<int> < <int>) | (<int> <= <int>) | (<int> > <int>) | (<int> >= <int>) | (<text> == <text>) | (<text> < <text>) | (<list> == <list>) | (<bool> != <bool>) | (<bool> && <bool>) | !<bool> | has(m, <text>) | has(q, <int>)"), "(<bool> || <bool>)"),
		"text":  split(`s | z | "" | "a" | "key" | (<text> + <text>) | str(<int>)`),
		"list":  split("l | l | l | push(<list>, <int>) | push(<list>, <int>) | q[<int>]"),
		"turns": split("0 | 1 | 2 | 3 | 3 | x | len(l) | <int> | -1 | 5000 | 9223372036854775807"),
		"stmt": split("set n = <int>; | set b = <bool>; | set s = <text>; | set l = <list>; | set l[<int>] = <int>; | set l[0] = <int>; | set m[<text>] = <int>; | set q[<int>] = <list>; | del m[<text>]; | del q[<int>]; | set x = <int>; | set z = <text>; | " +
			"if <bool> { <stmts> } | if <bool> { <stmts> } else { <stmts> } | for v# to <turns> { <stmts> set n = n + v#; } | for v# to <turns> {} | let v# = <int>; <stmts> set n = n - v#; | let v# = <list>; set v#[0] = <int>; set l = v#; | let v# = m; del v#[<text>]; set m = v#; | if <bool> { ret <result>; }"),
		"stmts": split("set n = n + 1; | <stmt> | <stmt> <stmt> | <stmt> <stmts>"),
	}
}

// grower makes texts of programs that are right.
type grower struct {
	coder
	forms map[string][]string
	count int
}

var partName = regexp.MustCompile(`<\w+>`)

// grow makes a part, with so many within one another.
func (g *grower) grow(name, result string, depth int) string {
	l := g.forms[name]
	if depth <= 0 {
		l = slices.DeleteFunc(slices.Clone(l), func(s string) bool { return strings.Contains(s, "<") })
	}
	if name == "stmt" && depth <= 0 {
		l = []string{"set n = 0;"}
	}
	s := pick(g.r, l)
	g.count++
	s = strings.ReplaceAll(s, "#", fmt.Sprint(g.count))
	s = strings.ReplaceAll(s, "<result>", "<"+result+">")
	return partName.ReplaceAllStringFunc(s, func(part string) string { return g.grow(part[1:len(part)-1], result, depth-1) })
}

const statesOf = "state n: int; state b: bool; state s: text; state l: [int]; state m: {text:int}; state q: {int:[int]};\n"

// text makes a program of functions, which call those ahead, and of handlers.
func (g *grower) text() string {
	g.forms = forms()
	s := "version 1; " + statesOf
	for i := range 2 + g.r.IntN(5) {
		result := pick(g.r, []string{"int", "bool", "text", "list"})
		of := strings.Replace(result, "list", "[int]", 1)
		end := ""
		if g.r.IntN(4) > 0 {
			end = " ret " + g.grow(result, result, 2) + ";"
		}
		body := fmt.Sprintf("f%d(x: int, y: bool, z: text): %s { %s%s }\n", i, of, g.grow("stmts", result, 4), end)
		if g.r.IntN(2) == 0 {
			s += "fn " + body
			call := fmt.Sprintf("f%d(<int>, <bool>, <text>)", i)
			g.forms[result] = append(g.forms[result], call, call, call)
		} else {
			s += "on " + body
		}
	}
	return s + "on last(x: int, y: bool, z: text): int { ret x; }"
}

// prog makes a program that was read.
func (g *grower) prog(t *testing.T) api.Prog {
	t.Helper()
	for {
		s := g.text()
		p, at, e := parse.Parse(s)
		if e == api.OK {
			p, at, e = types.Check(p)
		}
		if e == api.OK {
			return p
		}
		if e != api.ErrMany && e != api.ErrDeep && e != api.ErrLong {
			t.Fatalf("%s: %d at %d", s, e, at)
		}
	}
}

// values makes one of each type.
func (g *grower) values(of ...string) []api.Value {
	var out []api.Value
	for _, of := range of {
		v := value.Zero(of)
		for range 4 {
			if x := anyValue(g.r, v.Kind, 2); value.Fits(x, of) {
				v = x
			}
		}
		switch of {
		case "{text:int}":
			v, _ = value.Put(v, word("key"), number(3))
		case "{int:[int]}":
			v, _ = value.Put(v, number(g.r.IntN(3)), list(all("4, 5")...))
		}
		out = append(out, v)
	}
	return out
}

func (g *grower) program() []api.Value {
	return g.values("int", "bool", "text", "[int]", "{text:int}", "{int:[int]}")
}

// wantSame asks that code does what a program means, with one fuel.
func wantSame(t *testing.T, p api.Prog, m api.Module, states []api.Value, c api.Command, fuel int) ([]api.Value, api.Outcome) {
	t.Helper()
	want, wanted := sem.Call(p, states, c, fuel)
	out, o := Run(m, states, sem.Handler(p, c), c.Args, fuel)
	if !allAlike(out, want) || !sameOutcome(o, wanted) {
		t.Fatalf("%+v: %s(%s) of %s with %d: %s; not %s", p, c.Name, shownAll(c.Args), shownAll(states), fuel, told(out, o), told(want, wanted))
	}
	if !sem.State(p, out) {
		t.Fatalf("%+v: %s(%s) of %s: %s: no state", p, c.Name, shownAll(c.Args), shownAll(states), shownAll(out))
	}
	return out, o
}

// modules answers the code of a program, and of what it becomes by Optimize.
func modules(t *testing.T, p api.Prog) []api.Module {
	t.Helper()
	var out []api.Module
	for _, q := range []api.Prog{p, opt.Optimize(p)} {
		m, e := gen.Generate(q)
		if e != api.OK {
			t.Fatalf("%+v: no code: %d", q, e)
		}
		out = append(out, m)
	}
	return out
}

// handlers answers those of a program, each with arguments.
func (g *grower) handlers(p api.Prog) []api.Command {
	var out []api.Command
	for _, f := range p.Fns {
		if f.On {
			out = append(out, api.Command{Name: f.Name, Args: g.values("int", "bool", "text")})
		}
	}
	return out
}

func TestRandomPrograms(t *testing.T) {
	g := grower{coder: coder{r: newRand(5)}}
	seen, ops, changed := map[api.Errno]int{}, map[int]int{}, 0
	for range 1000 {
		p := g.prog(t)
		states := g.program()
		ms := modules(t, p)
		for _, c := range g.handlers(p) {
			var next []api.Value
			for _, m := range ms {
				out, o := wantSame(t, p, m, states, c, 4096)
				spent := 4096 - o.Fuel
				for _, fuel := range []int{spent, spent - 1, spent + 1, spent / 2, 0, 1, 2, g.r.IntN(20), -1, 5000, least, greatest} {
					wantSame(t, p, m, states, c, fuel)
				}
				look(t, m, states, sem.Handler(p, c), c.Args, 4096, ops)
				seen[o.Err]++
				next = out
			}
			if !allAlike(next, states) {
				changed++
			}
			states = next
		}
	}
	for _, e := range []api.Errno{api.OK, api.ErrOver, api.ErrZero, api.ErrKey, api.ErrSize, api.ErrFuel} {
		if seen[e] < 40 {
			t.Errorf("error %d: too few: %d", e, seen[e])
		}
	}
	for op := code.Const; op <= code.Del; op++ {
		if op != code.Pop && ops[op] < 100 {
			t.Errorf("%s: too few: %d", opNames[op-1], ops[op])
		}
	}
	if changed < 300 {
		t.Error("too little is changed:", changed)
	}
}

// From the first state on, by many commands, with a fuel that is sometimes too little.
func TestHistories(t *testing.T) {
	g := grower{coder: coder{r: newRand(6)}}
	done := 0
	for range 100 {
		p := g.prog(t)
		states, ms := sem.Zero(p), modules(t, p)
		for range 40 {
			c := pick(g.r, g.handlers(p))
			fuel := pick(g.r, []int{0, 3, 20, 100, 4096, 4096})
			var o api.Outcome
			for i, m := range ms {
				out, told := wantSame(t, p, m, states, c, fuel)
				if i == len(ms)-1 {
					states, o = out, told
				}
			}
			if o.Err == api.OK {
				done++
			}
		}
	}
	if done < 1000 {
		t.Error("too few ends well:", done)
	}
}

// The document's first examples, as code.
func TestDocument(t *testing.T) {
	const s = "version 1; state n: int; on add(x: int): int { set n = n + x; ret n; } on many(): int { for i to 5000 { set n = n + 1; } } on three(): int { for i to 3 { set n = n + 1; } ret n; }"
	p, _, _ := parse.Parse(s)
	p, _, e := types.Check(p)
	if e != api.OK {
		t.Fatal(e)
	}
	for _, m := range modules(t, p) {
		for _, c := range []struct {
			states string
			n      int
			args   string
			fuel   int
			want   string
		}{
			{"0", 0, "5", 4096, "5 -> 5 / 4096"},
			{"5", 0, "9223372036854775807", 4096, "5 -> ErrOver / 4096"},
			{"5", 1, "", 4096, "5 -> ErrFuel / 0"},
			{"5", 1, "", 9999, "5 -> ErrFuel / 0"},
			{"5", 2, "", 10, "8 -> 8 / 7"},
			{"5", 2, "", 3, "8 -> 8 / 0"},
			{"5", 2, "", 2, "5 -> ErrFuel / 0"},
		} {
			if got := told(Run(m, all(c.states), c.n, all(c.args), c.fuel)); got != c.want {
				t.Errorf("%d(%s) of %s: %s; not %s", c.n, c.args, c.states, got, c.want)
			}
		}
	}
}

// P15.4

// span is the memory that something has.
type span struct{ from, to uintptr }

func listSpan[T any](l []T) span {
	var one T
	from := uintptr(unsafe.Pointer(unsafe.SliceData(l)))
	return span{from, from + uintptr(cap(l))*unsafe.Sizeof(one)}
}

// textSpan leaves out texts of one byte: the language's own memory has each of them once, and nobody can write there.
func textSpan(s string) span {
	if len(s) < 2 {
		return span{}
	}
	from := uintptr(unsafe.Pointer(unsafe.StringData(s)))
	return span{from, from + uintptr(len(s))}
}

// spans answers the memory of a list of values, in all its depths.
func spans(l []api.Value) []span {
	out := []span{listSpan(l)}
	for _, v := range l {
		out = append(out, textSpan(v.Text))
		out = append(out, spans(v.List)...)
	}
	return out
}

// share tells whether two of these have a byte in common.
func share(l []span) bool {
	l = slices.DeleteFunc(slices.Clone(l), func(s span) bool { return s.from == s.to })
	slices.SortFunc(l, func(a, b span) int { return cmp.Compare(a.from, b.from) })
	for i := 1; i < len(l); i++ {
		if l[i-1].to > l[i].from {
			return true
		}
	}
	return false
}

// owner makes arguments in memory of its own, lists with spare room in which something stands, and texts that can be written over.
type owner struct {
	spans []span
	bytes [][]byte // of all lists and texts
	wipes []func()
}

func (o *owner) text(s string) string {
	if s == "" {
		return ""
	}
	b := []byte(s)
	o.bytes = append(o.bytes, b)
	o.wipes = append(o.wipes, func() { clear(b) })
	s = unsafe.String(&b[0], len(b))
	o.spans = append(o.spans, textSpan(s))
	return s
}

func roomy[T any](o *owner, l []T, spare T) []T {
	l = append(slices.Clone(l), spare, spare)
	at := listSpan(l)
	o.bytes = append(o.bytes, unsafe.Slice((*byte)(unsafe.Pointer(&l[0])), at.to-at.from))
	o.wipes = append(o.wipes, func() { clear(l[:cap(l)]) })
	o.spans = append(o.spans, at)
	return l[:len(l)-2]
}

func (o *owner) values(l []api.Value) []api.Value {
	l = roomy(o, l, api.Value{Kind: 99})
	for i := range l {
		l[i].Text, l[i].List = o.text(l[i].Text), o.values(l[i].List)
	}
	return l
}

func (o *owner) module(m api.Module) api.Module {
	m.Consts, m.Funcs = o.values(m.Consts), roomy(o, m.Funcs, api.Func{Params: 99})
	for i := range m.Funcs {
		m.Funcs[i].Code = roomy(o, m.Funcs[i].Code, api.Instr{Op: 99})
	}
	return m
}

// all answers all that the arguments hold, spare room included.
func (o *owner) all() string { return string(slices.Concat(o.bytes...)) }

func wipe(l []api.Value) {
	for _, v := range l {
		wipe(v.List)
	}
	clear(l[:cap(l)])
}

// wantNew asks for P15.4 of a run, whatever it answers.
func wantNew(t *testing.T, m api.Module, states []api.Value, n int, args []api.Value, fuel int) api.Errno {
	t.Helper()
	want, wanted := plainRun(m, states, n, args, fuel, map[int]int{})
	var own owner
	m, states, args = own.module(m), own.values(states), own.values(args)
	before := own.all()
	first, o1 := Run(m, states, n, args, fuel)
	second, o2 := Run(m, states, n, args, fuel)
	for _, v := range slices.Concat(states, args) {
		Sound(v)
	}
	if own.all() != before {
		t.Fatal("what was handed in is changed")
	}
	if share(slices.Concat(own.spans, spans(first), spans(values(o1.Value)), spans(second), spans(values(o2.Value)))) {
		t.Fatalf("%+v of %s: memory is shared", m, shownAll(states))
	}
	for _, wipe := range own.wipes {
		wipe()
	}
	if !allAlike(first, want) || !sameOutcome(o1, wanted) {
		t.Fatalf("%s; not %s", told(first, o1), told(want, wanted))
	}
	wipe(first)
	wipe(values(o1.Value))
	if !allAlike(second, want) || !sameOutcome(o2, wanted) {
		t.Fatalf("%s; not %s", told(second, o2), told(want, wanted))
	}
	return o1.Err
}

func TestNewMemory(t *testing.T) {
	states, args := all(`"a text", [["in", "lists"], [1]], {"a key": {"another": "text"}}`), all(`"an argument", [["deep", ["deeper"]]]`)
	for _, lines := range [][]string{
		{"2 2: Const 1, Ret"},
		{"2 2: Const \"a constant\", Ret"},
		{"2 2: Const \"a constant\", Set 0, Const \"a constant\", Set 1, Const \"a constant\", Ret"},
		{"2 2: Get 0, Ret"}, {"2 2: Get 1, Ret"}, {"2 2: Get 2, Ret"}, {"2 2: Load 0, Ret"}, {"2 2: Load 1, Ret"},
		{"2 2: Get 1, Set 0, Get 1, Set 2, Get 1, Ret"},
		{"2 2: Load 1, Set 0, Load 1, Set 2, Load 0, Set 1, Load 1, Ret"},
		{"2 2: Get 1, Load 1, Push, Load 1, Push, Set 1, Get 1, Ret"},
		{"2 2: Get 1, Const 0, Load 1, Put, Set 1, Get 1, Const 0, At, Ret"},
		{"2 2: Get 2, Load 0, Load 1, Put, Set 2, Get 2, Load 0, At, Set 1, Get 2, Ret"},
		{"2 2: Get 2, Const 1, Del, Set 2, Get 2, Set 0, Get 2, Ret"},
		{"2 2: Load 0, Const \"\", Binary +, Set 0, Get 0, Set 1, Load 0, Ret"},
		{"2 2: Load 1, Const 0, At, Const 1, At, Set 0, Load 1, Ret"},
		{"2 2: Load 1, Ret", "2 2: Load 0, Get 1, Call 0, Set 0, Load 1, Load 1, Call 0, Set 2, Get 0, Ret"},
		{"2 2: Load 1, Set 0, Load 0, Set 1, Const 1, Not, Ret"},
		{"2 2: Load 1, Set 0, Jump 2"},
		{"2 2: Load 1, Set 0, Charge 4096, Charge 4096, Const 1, Ret"},
		{"2 2: Ret"}, {"2 2: Load 2, Ret"}, {"1 1: Load 0, Ret"},
	} {
		wantNew(t, made(lines...), states, len(lines)-1, args, 50)
	}
	wantNew(t, made("2 2: Get 1, Ret"), values(states[0], heavy(-1)), 0, args, 50)
	c := coder{r: newRand(7)}
	seen := map[api.Errno]int{}
	for range 1500 {
		c.make()
		n := c.r.IntN(len(c.module.Funcs))
		seen[wantNew(t, c.module, c.of(c.states), n, c.of(c.params[n]), pick(c.r, []int{0, 5, 4096}))]++
	}
	if seen[api.OK] < 300 || seen[api.ErrCode] < 30 || seen[api.ErrFuel] < 30 {
		t.Error(seen)
	}
}

// One list and one text stand at several places of what is handed in: what is answered shares nothing all the same.
func TestSharedParts(t *testing.T) {
	text := strings.Clone("one text")
	one := list(word(text), list(word(text)))
	states, args := values(one, one, list(one, one), word(text)), values(one, one)
	m := made("2 2: Get 0, Load 1, Push, Set 2, Load 0, Set 1, Get 0, Ret")
	m.Consts = append(m.Consts, word(text))
	out, o := Run(m, states, 0, args, 9)
	if share(slices.Concat(spans(out), spans(values(o.Value)))) || o.Err != api.OK {
		t.Errorf("memory is shared: %s", told(out, o))
	}
	out, o = Run(made("2 2: Load 0, Set 1, Const 1, Not, Ret"), states, 0, args, 9)
	if share(spans(out)) || o.Err != api.ErrCode || !allAlike(out, states) {
		t.Errorf("memory is shared: %s", told(out, o))
	}
}

// What is answered hangs on what is handed in alone, whatever was asked ahead, and whether empty lists are nil.
func TestAgain(t *testing.T) {
	type asked struct {
		m            api.Module
		n, fuel      int
		states, args []api.Value
		want         string
	}
	c := coder{r: newRand(8)}
	var done []asked
	for range 500 {
		c.make()
		n := c.r.IntN(len(c.module.Funcs))
		a := asked{c.module, n, c.r.IntN(200), c.of(c.states), c.of(c.params[n]), ""}
		a.want = told(Run(a.m, a.states, n, a.args, a.fuel))
		done = append(done, a)
	}
	for _, a := range slices.Backward(done) {
		var own owner
		if got := told(Run(own.module(a.m), own.values(a.states), a.n, own.values(a.args), a.fuel)); got != a.want {
			t.Fatalf("%s; not %s", got, a.want)
		}
	}
	for _, l := range [][]api.Value{nil, {}} {
		m := made("0 0: Const 7, Ret")
		m.Funcs[0].Code = slices.Clip(m.Funcs[0].Code)
		if out, o := Run(m, l, 0, l, 9); told(out, o) != "-> 7 / 9" {
			t.Errorf("%s", told(out, o))
		}
	}
}
