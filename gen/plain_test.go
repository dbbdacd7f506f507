package gen

import (
	"fmt"
	"math"
	"math/rand/v2"
	"slices"
	"strconv"
	"strings"
	"testing"

	"quern/api"
	"quern/lex"
	"quern/opt"
	"quern/parse"
	"quern/types"
	"quern/value"
)

const least, greatest = math.MinInt, math.MaxInt

// Values.

func number(n int) api.Value        { return api.Value{Kind: 1, Num: n} }
func word(s string) api.Value       { return api.Value{Kind: 3, Text: s} }
func list(l ...api.Value) api.Value { return api.Value{Kind: 4, List: l} }

func truth(is bool) api.Value {
	return api.Value{Kind: 2, Num: map[bool]int{true: 1}[is]}
}

// table answers a map of pairs, whatever their order.
func table(l ...api.Value) api.Value {
	v := api.Value{Kind: 5}
	for i := 0; i < len(l); i += 2 {
		v, _ = value.Put(v, l[i], l[i+1])
	}
	return v
}

func alike(a, b api.Value) bool {
	return a.Kind == b.Kind && a.Num == b.Num && a.Text == b.Text && slices.EqualFunc(a.List, b.List, alike)
}

func allAlike(a, b []api.Value) bool { return slices.EqualFunc(a, b, alike) }

// shown is a value as the tables have it.
func shown(v api.Value) string {
	switch v.Kind {
	case 1:
		return fmt.Sprint(v.Num)
	case 2:
		return fmt.Sprint(v.Num == 1)
	case 3:
		return fmt.Sprintf("%.20q", v.Text)
	case 4:
		return "[" + shownAll(v.List) + "]"
	case 5:
		return "{" + shownAll(v.List) + "}"
	}
	return fmt.Sprintf("kind %d", v.Kind)
}

func shownAll(l []api.Value) string {
	var out []string
	for _, v := range l {
		out = append(out, shown(v))
	}
	return strings.Join(out, ", ")
}

// told is what a run answers, as the tables have it: the state, the answer or the error, the fuel.
func told(states []api.Value, o api.Outcome) string {
	what := shown(o.Value)
	if o.Err != api.OK {
		what = map[api.Errno]string{api.ErrOver: "ErrOver", api.ErrZero: "ErrZero", api.ErrKey: "ErrKey", api.ErrSize: "ErrSize", api.ErrFuel: "ErrFuel", api.ErrCode: "ErrCode"}[o.Err]
	}
	return fmt.Sprintf("%s -> %s / %d", shownAll(states), what, o.Fuel)
}

// Programs.

func loaded(t *testing.T, s string) api.Prog {
	t.Helper()
	if !strings.HasPrefix(s, "version") {
		s = "version 1; " + s
	}
	p, at, e := parse.Parse(s)
	if e == api.OK {
		p, at, e = types.Check(p)
	}
	if e != api.OK {
		t.Fatalf("%s: %d, %d: it isn't right", s, at, e)
	}
	return p
}

// nodes answers statements, all that are in them, and all their exprs.
func nodes(l []api.Stmt) (stmts []api.Stmt, exprs []api.Expr) {
	var within func(l []api.Expr)
	within = func(l []api.Expr) {
		for _, x := range l {
			exprs = append(exprs, x)
			within(x.Args)
		}
	}
	for _, s := range l {
		stmts = append(stmts, s)
		within(s.E)
		for _, inner := range [][]api.Stmt{s.Body, s.Else} {
			a, b := nodes(inner)
			stmts, exprs = append(stmts, a...), append(exprs, b...)
		}
	}
	return stmts, exprs
}

// count notes which kinds of statements and exprs, and which operators, a program has.
func count(p api.Prog, seen map[string]int) {
	for _, f := range p.Fns {
		stmts, exprs := nodes(f.Body)
		for _, s := range stmts {
			seen[fmt.Sprint("statement ", s.Kind, " ", s.State, " ", len(s.E))]++
		}
		for _, x := range exprs {
			seen[fmt.Sprint("expr ", x.Kind, " ", x.Op)]++
		}
	}
}

// kinds are all that a program can have.
func kinds() []string {
	out := strings.Split("statement 1 false 1,statement 2 false 1,statement 2 false 2,statement 2 true 1,statement 2 true 2,statement 3 false 1,statement 3 true 1,statement 4 false 1,statement 5 false 1,statement 6 false 1,statement 7 false 0", ",")
	for kind := api.EInt; kind < api.EBin; kind++ {
		if kind != api.EName {
			out = append(out, fmt.Sprint("expr ", kind, " 0"))
		}
	}
	for op := api.OpOr; op <= api.OpMod; op++ {
		out = append(out, fmt.Sprint("expr ", api.EBin, " ", op))
	}
	return out
}

// Programs, states, commands by chance.

func newRand(seed uint64) *rand.Rand       { return rand.New(rand.NewPCG(14, seed)) }
func pick[T any](r *rand.Rand, list []T) T { return list[r.IntN(len(list))] }

// local is a name in sight, as a maker knows it.
type local struct {
	name, of string
	turn     bool
}

// chancer makes the texts of programs that are right.
type chancer struct {
	r     *rand.Rand
	types []string // those that the program has: a state s0, s1 .. of each
	heads []api.Fn
	sight []local
	count int // locals of the function
	left  int // about how many parts may still come in it
}

var (
	someTypes   = strings.Fields("[int] [text] {int:int} {text:[int]} {int:bool} [[text]] {text:{int:text}} [{int:[bool]}] [bool] {text:text} {int:text}")
	someNumbers = strings.Fields("0 0 1 1 2 2 3 4 7 63 64 255 9223372036854775806 9223372036854775807 4611686018427387904 3037000500")
	someTexts   = []string{"", "", "a", "a", "b", "ab", "len", `\"`, strings.Repeat("z", 60), strings.Repeat("y", 200)}
	someTurns   = strings.Fields("-1 4095 4096 4097 1099511627777 9223372036854775807 -9223372036854775807")
)

// inner answers the types of a type's places and of what stands there; none of a plain type.
func inner(t string) (place, part string) {
	if t[0] == '[' {
		return "int", t[1 : len(t)-1]
	}
	if t[0] == '{' {
		place, part, _ = strings.Cut(t[1:len(t)-1], ":")
	}
	return place, part
}

func (m *chancer) text() string {
	m.types, m.heads = strings.Fields("int bool text"), nil
	for range m.r.IntN(4) {
		for s := pick(m.r, someTypes); s != "" && !slices.Contains(m.types, s); _, s = inner(s) {
			m.types = append(m.types, s)
		}
	}
	var b strings.Builder
	b.WriteString("version 1;\n")
	for i, s := range m.types {
		fmt.Fprintf(&b, "state s%d: %s;\n", i, s)
	}
	for i := range 1 + m.r.IntN(6) {
		f := api.Fn{Name: fmt.Sprint("f", i), On: i == 0 || m.r.IntN(2) == 0, Result: pick(m.r, m.types)}
		m.sight, m.count, m.left = nil, 0, 10+m.r.IntN(60)
		var params []string
		for range m.r.IntN(4) {
			s := api.Slot{Name: m.fresh(pick(m.r, m.types), false)}
			s.Type = m.sight[len(m.sight)-1].of
			f.Params = append(f.Params, s)
			params = append(params, s.Name+": "+s.Type)
		}
		word := map[bool]string{true: "on", false: "fn"}[f.On]
		fmt.Fprintf(&b, "%s %s(%s): %s %s\n", word, f.Name, strings.Join(params, ", "), f.Result, m.block(3, f.Result))
		m.heads = append(m.heads, f)
	}
	return b.String()
}

// prog makes a program, every other one optimized.
func (m *chancer) prog(t *testing.T) api.Prog {
	t.Helper()
	p := loaded(t, m.text())
	if m.r.IntN(2) == 0 {
		p = opt.Optimize(p)
	}
	return p
}

// fresh answers a new local's name.
func (m *chancer) fresh(of string, turn bool) string {
	name := fmt.Sprint("v", len(m.sight)) // so that names come again when others are out of sight
	m.sight = append(slices.Clone(m.sight), local{name, of, turn})
	m.count++
	return name
}

func (m *chancer) block(depth int, result string) string {
	sight := m.sight
	var b strings.Builder
	b.WriteString("{")
	for m.left > 0 && m.r.IntN(6) > 0 {
		b.WriteString(" " + m.stmt(depth, result))
	}
	m.sight = sight
	return b.String() + " }"
}

func (m *chancer) stmt(depth int, result string) string {
	m.left--
	choices := strings.Fields("let let set set set set put put put del if if for for for ret")
	if depth == 0 {
		choices = choices[:10]
	}
	choice := pick(m.r, choices)
	if m.count >= 30 && (choice == "let" || choice == "for") {
		choice = "set"
	}
	switch choice {
	case "let":
		of := pick(m.r, m.types)
		x := m.expr(of, 2)
		return "let " + m.fresh(of, false) + " = " + x + ";"
	case "if":
		s := "if " + m.expr("bool", 2) + " " + m.block(depth-1, result)
		if m.r.IntN(2) == 0 {
			s += " else " + m.block(depth-1, result)
		}
		return s
	case "for":
		return m.loop(depth, result)
	case "ret":
		return "ret " + m.expr(result, 2) + ";"
	}
	return m.change(choice)
}

func (m *chancer) loop(depth int, result string) string {
	n := strconv.Itoa(m.r.IntN(6))
	switch m.r.IntN(10) {
	case 0:
		n = pick(m.r, someTurns)
	case 1, 2:
		n = m.expr("int", 2)
	}
	sight := m.sight
	s := "for " + m.fresh("int", true) + " to " + n + " "
	if m.r.IntN(5) == 0 {
		s += "{}"
	} else {
		s += m.block(depth-1, result)
	}
	m.sight = sight
	return s
}

// change makes a set without a place, one with a place, or a del, if there is something for it.
func (m *chancer) change(choice string) string {
	var all []local
	for i, of := range m.types {
		all = append(all, local{name: fmt.Sprint("s", i), of: of})
	}
	all = slices.DeleteFunc(append(all, m.sight...), func(x local) bool {
		return x.turn || choice == "put" && x.of[0] != '[' && x.of[0] != '{' || choice == "del" && x.of[0] != '{'
	})
	if len(all) == 0 {
		return "set s0 = " + m.expr("int", 2) + ";"
	}
	x := pick(m.r, all)
	place, part := inner(x.of)
	switch choice {
	case "put":
		return "set " + x.name + "[" + m.key(x, place) + "] = " + m.expr(part, 2) + ";"
	case "del":
		return "del " + x.name + "[" + m.expr(place, 1) + "];"
	}
	return "set " + x.name + " = " + m.expr(x.of, 3) + ";"
}

// key makes a place that is often there.
func (m *chancer) key(x local, place string) string {
	if x.of[0] == '[' && m.r.IntN(3) > 0 {
		return "len(" + x.name + ") - 1"
	}
	return m.expr(place, 1)
}

// expr makes one of a type.
func (m *chancer) expr(of string, depth int) string {
	m.left--
	var ways []func() string
	add := func(n int, way func() string) {
		for range n {
			ways = append(ways, way)
		}
	}
	m.names(of, add)
	if depth > 0 {
		m.others(of, depth-1, add)
	}
	switch of {
	case "int":
		add(3, func() string { return pick(m.r, someNumbers) })
	case "bool":
		add(1, func() string { return pick(m.r, []string{"true", "false"}) })
	case "text":
		add(2, func() string { return lex.Quote(pick(m.r, someTexts)) })
	}
	return pick(m.r, ways)()
}

// names adds the locals and states of a type.
func (m *chancer) names(of string, add func(int, func() string)) {
	for i, s := range m.types {
		if s == of {
			add(2, func() string { return fmt.Sprint("s", i) })
		}
	}
	for _, x := range m.sight {
		if x.of == of {
			add(2, func() string { return x.name })
		}
	}
}

// others adds what is made of other exprs.
func (m *chancer) others(of string, depth int, add func(int, func() string)) {
	ex := func(t string) string { return m.expr(t, depth) }
	for _, f := range m.heads {
		if f.Result == of && !f.On {
			add(3, func() string {
				var args []string
				for _, s := range f.Params {
					args = append(args, ex(s.Type))
				}
				return f.Name + "(" + strings.Join(args, ", ") + ")"
			})
		}
	}
	long := "text"
	for i, s := range m.types {
		place, part := inner(s)
		if part == of {
			add(1, func() string { return fmt.Sprintf("s%d[%s]", i, m.key(local{fmt.Sprint("s", i), s, false}, place)) })
		}
		if s == of && s[0] == '[' {
			add(6, func() string { return "push(" + ex(s) + ", " + ex(part) + ")" })
		}
		if s[0] == '{' && of == "bool" {
			add(2, func() string { return "has(" + ex(s) + ", " + ex(place) + ")" })
		}
		if part != "" {
			long = s
		}
	}
	m.marked(of, long, ex, add)
}

// marked adds what has a mark, and the calls of plain types.
func (m *chancer) marked(of, long string, ex func(string) string, add func(int, func() string)) {
	pair := func(mark, t string) func() string {
		return func() string { return "(" + ex(t) + " " + mark + " " + ex(t) + ")" }
	}
	switch of {
	case "int":
		for i, mark := range strings.Fields("+ - * / %") {
			add([]int{3, 2, 1, 1, 1}[i], pair(mark, "int"))
		}
		add(1, func() string { return "-" + ex("int") })
		add(2, func() string { return "len(" + ex(pick(m.r, []string{"text", long})) + ")" })
	case "bool":
		for _, mark := range strings.Fields("== != < <= > >=") {
			add(1, pair(mark, "int"))
			add(1, pair(mark, "text"))
		}
		add(1, pair(pick(m.r, []string{"==", "!="}), pick(m.r, m.types)))
		add(3, pair("&&", "bool"))
		add(3, pair("||", "bool"))
		add(2, func() string { return "!" + ex("bool") })
	case "text":
		add(2, pair("+", "text"))
		add(1, func() string { return "str(" + ex("int") + ")" })
	}
}

// value makes one of a type; big is how many parts a list may have.
func (m *chancer) value(t string, big int) api.Value {
	n := m.r.IntN(big + 1)
	place, part := inner(t)
	switch t[0] {
	case 'i':
		n, _ := strconv.Atoi(pick(m.r, someNumbers))
		return number(n - m.r.IntN(3))
	case 'b':
		return truth(m.r.IntN(2) == 0)
	case 't':
		return word(pick(m.r, someTexts))
	}
	var parts []api.Value
	for range n {
		if t[0] == '{' {
			parts = append(parts, m.value(place, 0))
		}
		parts = append(parts, m.value(part, 2))
	}
	if t[0] == '{' {
		return table(parts...)
	}
	return list(parts...)
}

// values makes one for each type, light enough.
func (m *chancer) values(of []string, sizes []int) []api.Value {
	var out []api.Value
	for _, s := range of {
		v := m.value(s, pick(m.r, sizes))
		if !value.Fits(v, s) {
			v = m.value(s, 2)
		}
		out = append(out, v)
	}
	return out
}

func (m *chancer) states() []api.Value { return m.values(m.types, []int{0, 2, 4, 64}) }

// command makes one that names a handler.
func (m *chancer) command() api.Command {
	f := pick(m.r, slices.DeleteFunc(slices.Clone(m.heads), func(f api.Fn) bool { return !f.On }))
	var of []string
	for _, s := range f.Params {
		of = append(of, s.Type)
	}
	return api.Command{Name: f.Name, Args: m.values(of, []int{0, 1, 3, 63, 64})}
}
