package sem

import (
	"fmt"
	"math/big"
	"math/rand/v2"
	"slices"
	"strconv"
	"strings"

	"quern/api"
	"quern/lex"
	"quern/value"
)

// The plain model runs programs as they were read, by their names, ahead of layer 10's check. Its values are the Go language's own, its numbers have no end, its traps are answered, not thrown.

type (
	list []any
	dict map[any]any
)

// cell is a local in sight, and those that were in sight ahead of it.
type cell struct {
	name  string
	value any
	outer *cell
}

func (c *cell) find(name string) *cell {
	for c != nil && c.name != name {
		c = c.outer
	}
	return c
}

// valueOf answers the layers' value of a plain one.
func valueOf(x any) api.Value {
	switch x := x.(type) {
	case int:
		return api.Value{Kind: 1, Num: x}
	case bool:
		return api.Value{Kind: 2, Num: map[bool]int{true: 1}[x]}
	case string:
		return api.Value{Kind: 3, Text: x}
	case list:
		return api.Value{Kind: 4, List: valuesOf(x...)}
	case dict:
		v := api.Value{Kind: 5}
		for _, k := range sortedKeys(x) {
			v.List = append(v.List, valueOf(k), valueOf(x[k]))
		}
		return v
	}
	panic(fmt.Sprintf("%T", x))
}

func valuesOf(l ...any) []api.Value {
	var out []api.Value
	for _, x := range l {
		out = append(out, valueOf(x))
	}
	return out
}

func sortedKeys(d dict) []any {
	var out []any
	for k := range d {
		out = append(out, k)
	}
	slices.SortFunc(out, func(a, b any) int {
		if n, ok := a.(int); ok {
			return big.NewInt(int64(n)).Cmp(big.NewInt(int64(b.(int))))
		}
		return strings.Compare(a.(string), b.(string))
	})
	return out
}

// plainOf answers the plain value of one of a type.
func plainOf(v api.Value) any {
	switch v.Kind {
	case 1:
		return v.Num
	case 2:
		return v.Num == 1
	case 3:
		return v.Text
	case 4:
		l := list{}
		for _, x := range v.List {
			l = append(l, plainOf(x))
		}
		return l
	}
	d := dict{}
	for i := 0; i < len(v.List); i += 2 {
		d[plainOf(v.List[i])] = plainOf(v.List[i+1])
	}
	return d
}

// firstOf answers a type's first value.
func firstOf(t string) any {
	switch t[0] {
	case 'i':
		return 0
	case 'b':
		return false
	case 't':
		return ""
	case '[':
		return list{}
	}
	return dict{}
}

func plainWeight(x any) int {
	w := 1
	switch x := x.(type) {
	case string:
		w += len(x)
	case list:
		for _, y := range x {
			w += plainWeight(y)
		}
	case dict:
		for k, y := range x {
			w += plainWeight(k) + plainWeight(y)
		}
	}
	return w
}

// light answers what isn't too heavy.
func light(x any) (any, api.Errno) {
	if plainWeight(x) > 16384 {
		return nil, api.ErrSize
	}
	return x, 0
}

// plain is a run.
type plain struct {
	p             api.Prog
	states        map[string]any
	budget, spent int
}

func plainCall(p api.Prog, states []api.Value, c api.Command, fuel int) ([]api.Value, api.Outcome) {
	fits := len(states) == len(p.States)
	for i := range states {
		fits = fits && value.Fits(states[i], p.States[i].Type)
	}
	if !fits {
		return nil, api.Outcome{Err: api.ErrState}
	}
	m := plain{p: p, states: map[string]any{}, budget: fuel}
	if fuel > 4096 {
		m.budget = 4096
	} else if fuel < 0 {
		m.budget = 0
	}
	for i, s := range p.States {
		m.states[s.Name] = plainOf(states[i])
	}
	for _, f := range p.Fns {
		if !f.On || f.Name != c.Name || len(f.Params) != len(c.Args) {
			continue
		}
		args, fit := list{}, true
		for i, v := range c.Args {
			if fit = fit && value.Fits(v, f.Params[i].Type); fit {
				args = append(args, plainOf(v))
			}
		}
		if fit {
			return m.outcome(states, f, args)
		}
	}
	return states, api.Outcome{Err: api.ErrCommand, Fuel: m.budget}
}

func (m *plain) outcome(states []api.Value, f api.Fn, args list) ([]api.Value, api.Outcome) {
	x, e := m.function(f, args)
	if e != 0 {
		return states, api.Outcome{Err: e, Fuel: m.budget - m.spent}
	}
	var out []api.Value
	for _, s := range m.p.States {
		out = append(out, valueOf(m.states[s.Name]))
	}
	return out, api.Outcome{Value: valueOf(x), Fuel: m.budget - m.spent}
}

func (m *plain) charge(n int) api.Errno {
	if m.spent+n > m.budget {
		m.spent = m.budget
		return api.ErrFuel
	}
	m.spent += n
	return 0
}

func (m *plain) function(f api.Fn, args list) (any, api.Errno) {
	var sight *cell
	for i, s := range f.Params {
		sight = &cell{s.Name, args[i], sight}
	}
	x, e := m.block(f.Body, sight)
	if x == nil && e == 0 {
		x = firstOf(f.Result)
	}
	return x, e
}

// block answers what is answered by a ret, nil if there was none.
func (m *plain) block(l []api.Stmt, sight *cell) (any, api.Errno) {
	for _, s := range l {
		var e []any
		for _, x := range s.E {
			y, err := m.expr(x, sight)
			if err != 0 {
				return nil, err
			}
			e = append(e, y)
		}
		var x any
		var err api.Errno
		switch s.Kind {
		case api.SLet:
			sight = &cell{s.Name, e[0], sight}
		case api.SSet, api.SDel:
			err = m.change(s, e, sight)
		case api.SIf:
			x, err = m.block(map[bool][]api.Stmt{true: s.Body, false: s.Else}[e[0].(bool)], sight)
		case api.SFor:
			x, err = m.turns(s, e[0].(int), sight)
		case api.SRet:
			x = e[0]
		case api.SCharge:
			err = m.charge(s.Num)
		}
		if x != nil || err != 0 {
			return x, err
		}
	}
	return nil, 0
}

func (m *plain) turns(s api.Stmt, n int, sight *cell) (any, api.Errno) {
	for i := 0; i < n; i++ {
		if e := m.charge(1); e != 0 {
			return nil, e
		}
		if x, e := m.block(s.Body, &cell{s.Name, i, sight}); x != nil || e != 0 {
			return x, e
		}
	}
	return nil, 0
}

// change does a set or a del.
func (m *plain) change(s api.Stmt, e []any, sight *cell) api.Errno {
	local := sight.find(s.Name)
	was := m.states[s.Name]
	if local != nil {
		was = local.value
	}
	var x any
	var err api.Errno
	switch {
	case s.Kind == api.SDel:
		x = without(was.(dict), e[0])
	case len(e) == 1:
		x = e[0]
	default:
		x, err = plainPut(was, e[0], e[1])
	}
	if err != 0 {
		return err
	}
	if local != nil {
		local.value = x
	} else {
		m.states[s.Name] = x
	}
	return 0
}

func without(d dict, key any) dict {
	out := dict{}
	for k, x := range d {
		if k != key {
			out[k] = x
		}
	}
	return out
}

func plainPut(was, k, x any) (any, api.Errno) {
	if l, ok := was.(list); ok {
		i := k.(int)
		if i < 0 || i >= len(l) {
			return nil, api.ErrKey
		}
		return light(slices.Concat(l[:i], list{x}, l[i+1:]))
	}
	out := without(was.(dict), k)
	if len(out) == 64 {
		return nil, api.ErrSize
	}
	out[k] = x
	return light(out)
}

func plainAt(x, k any) (any, api.Errno) {
	if l, ok := x.(list); ok {
		if i := k.(int); i >= 0 && i < len(l) {
			return l[i], 0
		}
		return nil, api.ErrKey
	}
	if y, ok := x.(dict)[k]; ok {
		return y, 0
	}
	return nil, api.ErrKey
}

func (m *plain) expr(x api.Expr, sight *cell) (any, api.Errno) {
	switch x.Kind {
	case api.EInt:
		return x.Num, 0
	case api.EBool:
		return x.Num == 1, 0
	case api.EText:
		return x.Text, 0
	case api.EName:
		if c := sight.find(x.Text); c != nil {
			return c.value, 0
		}
		return m.states[x.Text], 0
	}
	var args list
	for i, arg := range x.Args {
		if x.Kind == api.EBin && x.Op < 3 && i == 1 && args[0] == (x.Op == 1) {
			return args[0], 0
		}
		y, e := m.expr(arg, sight)
		if e != 0 {
			return nil, e
		}
		args = append(args, y)
	}
	switch x.Kind {
	case api.ECall:
		return m.call(x.Text, args)
	case api.EAt:
		return plainAt(args[0], args[1])
	case api.ENeg:
		return plainOp("-", 0, args[0])
	case api.ENot:
		return args[0] == false, 0
	}
	if x.Op < 3 {
		return args[1], 0
	}
	return plainOp(marks[x.Op-1], args[0], args[1])
}

func (m *plain) call(name string, args list) (any, api.Errno) {
	switch name {
	case "len":
		switch x := args[0].(type) {
		case string:
			return len(x), 0
		case list:
			return len(x), 0
		}
		return len(args[0].(dict)), 0
	case "has":
		_, is := args[0].(dict)[args[1]]
		return is, 0
	case "push":
		if l := args[0].(list); len(l) < 64 {
			return light(append(slices.Clone(l), args[1]))
		}
		return nil, api.ErrSize
	case "str":
		return fmt.Sprint(args[0]), 0
	}
	if e := m.charge(1); e != 0 {
		return nil, e
	}
	i := slices.IndexFunc(m.p.Fns, func(f api.Fn) bool { return f.Name == name })
	return m.function(m.p.Fns[i], args)
}

var marks = strings.Fields("|| && == != < <= > >= + - * / %")

// plainOp answers what an operator from == on makes of two values of types that fit it.
func plainOp(mark string, a, b any) (any, api.Errno) {
	switch mark {
	case "==":
		return alike(valueOf(a), valueOf(b)), 0
	case "!=":
		return !alike(valueOf(a), valueOf(b)), 0
	}
	if s, ok := a.(string); ok {
		return textOp(mark, s, b.(string))
	}
	x, y, z := big.NewInt(int64(a.(int))), big.NewInt(int64(b.(int))), new(big.Int)
	if (mark == "/" || mark == "%") && y.Sign() == 0 {
		return nil, api.ErrZero
	}
	switch mark {
	case "+":
		z.Add(x, y)
	case "-":
		z.Sub(x, y)
	case "*":
		z.Mul(x, y)
	case "/":
		z.Quo(x, y)
	case "%":
		z.Rem(x, y)
	default:
		return ordering(mark, x.Cmp(y)), 0
	}
	if !z.IsInt64() {
		return nil, api.ErrOver
	}
	return int(z.Int64()), 0
}

func textOp(mark, a, b string) (any, api.Errno) {
	if mark == "+" {
		if len(a)+len(b) > 256 {
			return nil, api.ErrSize
		}
		return a + b, 0
	}
	return ordering(mark, slices.Compare([]byte(a), []byte(b))), 0
}

func ordering(mark string, c int) bool {
	return strings.Contains(map[string]string{"<": "-", "<=": "-0", ">": "+", ">=": "+0"}[mark], "-0+"[c+1:c+2])
}

func alike(a, b api.Value) bool {
	return a.Kind == b.Kind && a.Num == b.Num && a.Text == b.Text && slices.EqualFunc(a.List, b.List, alike)
}

// Programs, states, commands by chance.

func newRand(seed uint64) *rand.Rand       { return rand.New(rand.NewPCG(11, seed)) }
func pick[T any](r *rand.Rand, list []T) T { return list[r.IntN(len(list))] }

// local is a name in sight, as a maker knows it.
type local struct {
	name, of string
	turn     bool
}

// maker makes the texts of programs that are right.
type maker struct {
	r     *rand.Rand
	types []string // those that the program has: a state s0, s1 .. of each
	heads []api.Fn
	sight []local
	count int // locals of the function
	left  int // about how many parts may still come in it
}

var (
	someTypes   = strings.Fields("[int] [text] {int:int} {text:[int]} {int:bool} [[text]] {text:{int:text}} [{int:[bool]}] [bool] {text:text} {int:text}")
	someNumbers = strings.Fields("0 0 1 1 2 2 3 4 7 63 64 255 9223372036854775806 9223372036854775807 4611686018427387904 3037000500")
	someTexts   = []string{"", "", "a", "a", "b", "ab", "len", `\"`, strings.Repeat("z", 60), strings.Repeat("y", 200)}
)

// inner answers the types of a type's places and of what stands there; none of a plain type.
func inner(t string) (place, part string) {
	if t[0] == '[' {
		return "int", t[1 : len(t)-1]
	}
	if t[0] == '{' {
		place, part, _ = strings.Cut(t[1:len(t)-1], ":")
	}
	return place, part
}

func (m *maker) prog() string {
	m.types, m.heads = strings.Fields("int bool text"), nil
	for range m.r.IntN(4) {
		for s := pick(m.r, someTypes); s != "" && !slices.Contains(m.types, s); _, s = inner(s) {
			m.types = append(m.types, s)
		}
	}
	var b strings.Builder
	b.WriteString("version 1;\n")
	for i, s := range m.types {
		fmt.Fprintf(&b, "state s%d: %s;\n", i, s)
	}
	for i := range 1 + m.r.IntN(6) {
		f := api.Fn{Name: fmt.Sprint("f", i), On: i == 0 || m.r.IntN(2) == 0, Result: pick(m.r, m.types)}
		m.sight, m.count, m.left = nil, 0, 10+m.r.IntN(60)
		var params []string
		for range m.r.IntN(4) {
			s := api.Slot{Name: m.fresh(pick(m.r, m.types), false)}
			s.Type = m.sight[len(m.sight)-1].of
			f.Params = append(f.Params, s)
			params = append(params, s.Name+": "+s.Type)
		}
		word := map[bool]string{true: "on", false: "fn"}[f.On]
		fmt.Fprintf(&b, "%s %s(%s): %s %s\n", word, f.Name, strings.Join(params, ", "), f.Result, m.block(3, f.Result))
		m.heads = append(m.heads, f)
	}
	return b.String()
}

// fresh answers a new local's name.
func (m *maker) fresh(of string, turn bool) string {
	name := fmt.Sprint("v", len(m.sight)) // so that names come again when others are out of sight
	m.sight = append(slices.Clone(m.sight), local{name, of, turn})
	m.count++
	return name
}

func (m *maker) block(depth int, result string) string {
	sight := m.sight
	var b strings.Builder
	b.WriteString("{")
	for m.left > 0 && m.r.IntN(6) > 0 {
		b.WriteString(" " + m.stmt(depth, result))
	}
	m.sight = sight
	return b.String() + " }"
}

func (m *maker) stmt(depth int, result string) string {
	m.left--
	choices := strings.Fields("let let set set set set put put put del if for for ret")
	if depth == 0 {
		choices = choices[:10]
	}
	choice := pick(m.r, choices)
	if m.count >= 30 && (choice == "let" || choice == "for") {
		choice = "set"
	}
	switch choice {
	case "let":
		of := pick(m.r, m.types)
		x := m.expr(of, 2)
		return "let " + m.fresh(of, false) + " = " + x + ";"
	case "if":
		s := "if " + m.expr("bool", 2) + " " + m.block(depth-1, result)
		if m.r.IntN(2) == 0 {
			s += " else " + m.block(depth-1, result)
		}
		return s
	case "for":
		return m.loop(depth, result)
	case "ret":
		return "ret " + m.expr(result, 2) + ";"
	}
	return m.change(choice)
}

func (m *maker) loop(depth int, result string) string {
	n := strconv.Itoa(m.r.IntN(6))
	if m.r.IntN(4) == 0 {
		n = m.expr("int", 2)
	}
	sight := m.sight
	s := "for " + m.fresh("int", true) + " to " + n + " " + m.block(depth-1, result)
	m.sight = sight
	return s
}

// change makes a set without a place, one with a place, or a del, if there is something for it.
func (m *maker) change(choice string) string {
	var all []local
	for i, of := range m.types {
		all = append(all, local{name: fmt.Sprint("s", i), of: of})
	}
	all = slices.DeleteFunc(append(all, m.sight...), func(x local) bool {
		return x.turn || choice == "put" && x.of[0] != '[' && x.of[0] != '{' || choice == "del" && x.of[0] != '{'
	})
	if len(all) == 0 {
		return "set s0 = " + m.expr("int", 2) + ";"
	}
	x := pick(m.r, all)
	place, part := inner(x.of)
	switch choice {
	case "put":
		return "set " + x.name + "[" + m.key(x, place) + "] = " + m.expr(part, 2) + ";"
	case "del":
		return "del " + x.name + "[" + m.expr(place, 1) + "];"
	}
	return "set " + x.name + " = " + m.expr(x.of, 3) + ";"
}

// key makes a place that is often there.
func (m *maker) key(x local, place string) string {
	if x.of[0] == '[' && m.r.IntN(3) > 0 {
		return "len(" + x.name + ") - 1"
	}
	return m.expr(place, 1)
}

// expr makes one of a type.
func (m *maker) expr(of string, depth int) string {
	m.left--
	var ways []func() string
	add := func(n int, way func() string) {
		for range n {
			ways = append(ways, way)
		}
	}
	m.names(of, add)
	if depth > 0 {
		m.others(of, depth-1, add)
	}
	switch of {
	case "int":
		add(3, func() string { return pick(m.r, someNumbers) })
	case "bool":
		add(1, func() string { return pick(m.r, []string{"true", "false"}) })
	case "text":
		add(2, func() string { return lex.Quote(pick(m.r, someTexts)) })
	}
	return pick(m.r, ways)()
}

// names adds the locals and states of a type.
func (m *maker) names(of string, add func(int, func() string)) {
	for i, s := range m.types {
		if s == of {
			add(2, func() string { return fmt.Sprint("s", i) })
		}
	}
	for _, x := range m.sight {
		if x.of == of {
			add(2, func() string { return x.name })
		}
	}
}

// others adds what is made of other exprs.
func (m *maker) others(of string, depth int, add func(int, func() string)) {
	ex := func(t string) string { return m.expr(t, depth) }
	for _, f := range m.heads {
		if f.Result == of && !f.On {
			add(3, func() string {
				var args []string
				for _, s := range f.Params {
					args = append(args, ex(s.Type))
				}
				return f.Name + "(" + strings.Join(args, ", ") + ")"
			})
		}
	}
	long := "text"
	for i, s := range m.types {
		place, part := inner(s)
		if part == of {
			add(1, func() string { return fmt.Sprintf("s%d[%s]", i, m.key(local{fmt.Sprint("s", i), s, false}, place)) })
		}
		if s == of && s[0] == '[' {
			add(6, func() string { return "push(" + ex(s) + ", " + ex(part) + ")" })
		}
		if s[0] == '{' && of == "bool" {
			add(2, func() string { return "has(" + ex(s) + ", " + ex(place) + ")" })
			add(1, func() string {
				k := ex(place)
				return fmt.Sprintf("(has(s%d, %s) && s%d[%s] == %s)", i, k, i, k, ex(part))
			})
		}
		if part != "" {
			long = s
		}
	}
	marked := func(mark, t string) func() string {
		return func() string { return "(" + ex(t) + " " + mark + " " + ex(t) + ")" }
	}
	switch of {
	case "int":
		for i, mark := range strings.Fields("+ - * / %") {
			add([]int{3, 2, 1, 1, 1}[i], marked(mark, "int"))
		}
		add(1, func() string { return "-" + ex("int") })
		add(2, func() string { return "len(" + ex(pick(m.r, []string{"text", long})) + ")" })
	case "bool":
		for _, mark := range strings.Fields("== != < <= > >=") {
			add(1, marked(mark, "int"))
			add(1, marked(mark, "text"))
		}
		add(1, marked(pick(m.r, []string{"==", "!="}), pick(m.r, m.types)))
		add(2, marked("&&", "bool"))
		add(2, marked("||", "bool"))
		add(2, func() string { return "!" + ex("bool") })
	case "text":
		add(2, marked("+", "text"))
		add(1, func() string { return "str(" + ex("int") + ")" })
	}
}

// value makes one of a type; big is how many parts a list may have.
func (m *maker) value(t string, big int) api.Value {
	n := m.r.IntN(big + 1)
	place, part := inner(t)
	switch t[0] {
	case 'i':
		n, _ := strconv.Atoi(pick(m.r, someNumbers))
		return valueOf(n - m.r.IntN(3))
	case 'b':
		return valueOf(n%2 == 0)
	case 't':
		return valueOf(pick(m.r, someTexts))
	case '[':
		v := valueOf(list{})
		for range n {
			v.List = append(v.List, m.value(part, 2))
		}
		return v
	}
	d := dict{}
	for range n {
		d[plainOf(m.value(place, 0))] = plainOf(m.value(part, 2))
	}
	return valueOf(d)
}

func (m *maker) states() []api.Value {
	var out []api.Value
	for _, s := range m.types {
		v := m.value(s, pick(m.r, []int{0, 2, 4, 64}))
		if !value.Fits(v, s) { // too heavy
			v = m.value(s, 2)
		}
		out = append(out, v)
	}
	return out
}

// command makes one that names a handler, but for a few.
func (m *maker) command() api.Command {
	var all []api.Fn
	for _, f := range m.heads {
		if f.On {
			all = append(all, f)
		}
	}
	f := pick(m.r, all)
	c := api.Command{Name: f.Name}
	for _, s := range f.Params {
		c.Args = append(c.Args, m.value(s.Type, 3))
	}
	if m.r.IntN(40) == 0 {
		c.Args = append(c.Args, valueOf(1))
	}
	if m.r.IntN(40) == 0 {
		c.Name = pick(m.r, []string{"", "f1", "f2", "f9", "s0"})
	}
	return c
}
