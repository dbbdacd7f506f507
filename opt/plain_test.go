package opt

import (
	"fmt"
	"math/big"
	"math/rand/v2"
	"slices"
	"strconv"
	"strings"

	"quern/api"
	"quern/lex"
)

// The plain model does one thing at a time, anywhere in a program, in an order by chance, until nothing is left to do: what becomes of a program must not hang on that order. Its numbers have no end.

// chore is something that can be done, and by which of the chapter's rules.
type chore struct {
	rule string
	do   func()
}

// doAll does chores until there are none, and notes by which rules.
func doAll(r *rand.Rand, done map[string]int, chores func() []chore) {
	for l := chores(); len(l) > 0; l = chores() {
		c := pick(r, l)
		done[c.rule]++
		c.do()
	}
}

func plainFold(r *rand.Rand, x api.Expr) api.Expr {
	l := copyExprs([]api.Expr{x})
	doAll(r, map[string]int{}, func() []chore { return exprChores(l) })
	return l[0]
}

func plainBlock(r *rand.Rand, l []api.Stmt, done map[string]int) []api.Stmt {
	l = copyStmts(l)
	doAll(r, done, func() []chore { return stmtChores(&l) })
	return l
}

func plainOptimize(r *rand.Rand, p api.Prog, done map[string]int) api.Prog {
	p = copyProg(p)
	for i := range p.Fns {
		p.Fns[i].Body = plainBlock(r, p.Fns[i].Body, done)
	}
	return copyProg(p)
}

func exprChores(l []api.Expr) []chore {
	var out []chore
	for i := range l {
		x := &l[i]
		out = append(out, exprChores(x.Args)...)
		if y, rule := plainRule(*x); rule != "" {
			out = append(out, chore{rule, func() { *x = y }})
		}
	}
	return out
}

// plainRule answers what an expr becomes, its Args as they are, and the rule; none, if it stays.
func plainRule(x api.Expr) (api.Expr, string) {
	if x.Kind == api.EBin && x.Op <= api.OpAnd {
		neutral := x.Op - 1 // false of ||, true of &&
		for i, arg := range x.Args {
			if arg.Kind == api.EBool && arg.Num == neutral {
				return x.Args[1-i], []string{"the first doesn't decide", "the second doesn't decide"}[i]
			}
		}
		if x.Args[0].Kind == api.EBool {
			return x.Args[0], "the first decides"
		}
		return x, ""
	}
	var args []any
	for _, arg := range x.Args {
		switch arg.Kind {
		case api.EInt:
			args = append(args, big.NewInt(int64(arg.Num)))
		case api.EBool:
			args = append(args, arg.Num == 1)
		case api.EText:
			args = append(args, arg.Text)
		default:
			return x, ""
		}
	}
	if y, ok := plainConstant(plainReckon(x, args)); ok {
		return y, fmt.Sprint("constant ", x.Kind, " ", x.Op)
	}
	return x, ""
}

// plainReckon answers what an expr makes of constants; nil, if that traps or if it isn't one of those that are reckoned.
func plainReckon(x api.Expr, args []any) any {
	switch x.Kind {
	case api.ENeg:
		return new(big.Int).Neg(args[0].(*big.Int))
	case api.ENot:
		return args[0] == false
	case api.EStr:
		return args[0].(*big.Int).String()
	case api.ELen:
		return big.NewInt(int64(len(args[0].(string))))
	case api.EBin:
		return plainOp(marks[x.Op-1], args[0], args[1])
	}
	return nil
}

var marks = strings.Fields("|| && == != < <= > >= + - * / %")

func plainOp(mark string, a, b any) any {
	order, like := 0, false
	switch a := a.(type) {
	case bool:
		like = a == b
	case string:
		like, order = a == b, slices.Compare([]byte(a), []byte(b.(string)))
		if mark == "+" {
			return a + b.(string)
		}
	case *big.Int:
		order = a.Cmp(b.(*big.Int))
		like = order == 0
		if x := plainNumber(mark, a, b.(*big.Int)); x != nil {
			return x
		}
	}
	switch mark {
	case "==":
		return like
	case "!=":
		return !like
	case "<":
		return order < 0
	case "<=":
		return order <= 0
	case ">":
		return order > 0
	case ">=":
		return order >= 0
	}
	return nil
}

// plainNumber answers a number, or nil of a mark that makes none.
func plainNumber(mark string, a, b *big.Int) any {
	z := new(big.Int)
	switch mark {
	case "+":
		return z.Add(a, b)
	case "-":
		return z.Sub(a, b)
	case "*":
		return z.Mul(a, b)
	}
	if b.Sign() != 0 && mark == "/" {
		return z.Quo(a, b)
	}
	if b.Sign() != 0 && mark == "%" {
		return z.Rem(a, b)
	}
	return nil
}

func plainConstant(x any) (api.Expr, bool) {
	switch x := x.(type) {
	case *big.Int:
		return api.Expr{Kind: 1, Num: int(x.Int64()), Type: "int"}, x.IsInt64()
	case bool:
		return api.Expr{Kind: 2, Num: map[bool]int{true: 1}[x], Type: "bool"}, true
	case string:
		return api.Expr{Kind: 3, Text: x, Type: "text"}, len(x) <= 256
	}
	return api.Expr{}, false
}

func stmtChores(l *[]api.Stmt) []chore {
	var out []chore
	for i := range *l {
		s := &(*l)[i]
		out = append(out, exprChores(s.E)...)
		out = append(out, stmtChores(&s.Body)...)
		out = append(out, stmtChores(&s.Else)...)
		become := func(rule string, by ...api.Stmt) {
			out = append(out, chore{rule, func() { *l = slices.Concat((*l)[:i], by, (*l)[i+1:]) }})
		}
		switch {
		case s.Kind == api.SIf && s.E[0].Kind == api.EBool && s.E[0].Num == 1:
			become("if true", s.Body...)
		case s.Kind == api.SIf && s.E[0].Kind == api.EBool:
			become("if false", s.Else...)
		case s.Kind == api.SIf && len(s.Body)+len(s.Else) == 0 && plainQuiet(s.E[0]):
			become("if quiet")
		case s.Kind == api.SFor && s.E[0].Kind == api.EInt && s.E[0].Num < 1:
			become("for 0")
		case s.Kind == api.SFor && s.E[0].Kind == api.EInt && len(s.Body) == 0:
			become("for n", api.Stmt{Kind: 7, Num: s.E[0].Num})
		case s.Kind == api.SCharge && s.Num < 1:
			become("charge 0")
		case s.Kind == api.SRet && i+1 < len(*l):
			out = append(out, chore{"behind a ret", func() { *l = (*l)[:i+1] }})
		}
	}
	return out
}

// plainQuiet looks for something in an expr that may trap or take fuel.
func plainQuiet(x api.Expr) bool {
	loud := []int{api.EName, api.ECall, api.EPush, api.EAt, api.ENeg}
	return !slices.ContainsFunc(exprNodes([]api.Expr{x}), func(y api.Expr) bool {
		return slices.Contains(loud, y.Kind) || y.Kind == api.EBin && y.Op > api.OpGe || y.Kind < 1 || y.Kind > 15
	})
}

// exprNodes answers exprs and all that is in them.
func exprNodes(l []api.Expr) []api.Expr {
	var out []api.Expr
	for _, x := range l {
		out = append(append(out, x), exprNodes(x.Args)...)
	}
	return out
}

// nodes answers statements, all that are in them, and all their exprs.
func nodes(l []api.Stmt) (stmts []api.Stmt, exprs []api.Expr) {
	for _, s := range l {
		stmts, exprs = append(stmts, s), append(exprs, exprNodes(s.E)...)
		for _, inner := range [][]api.Stmt{s.Body, s.Else} {
			a, b := nodes(inner)
			stmts, exprs = append(stmts, a...), append(exprs, b...)
		}
	}
	return stmts, exprs
}

// progNodes answers all statements and exprs of a program.
func progNodes(p api.Prog) (stmts []api.Stmt, exprs []api.Expr) {
	for _, f := range p.Fns {
		a, b := nodes(f.Body)
		stmts, exprs = append(stmts, a...), append(exprs, b...)
	}
	return stmts, exprs
}

// Copies, whose empty lists are nil, so that the library can hold them against each other.

func copyEach[T any](l []T, of func(T) T) []T {
	var out []T
	for _, x := range l {
		out = append(out, of(x))
	}
	return out
}

func copyExprs(l []api.Expr) []api.Expr { return copyEach(l, copyExpr) }
func copyStmts(l []api.Stmt) []api.Stmt { return copyEach(l, copyStmt) }

func copyExpr(x api.Expr) api.Expr {
	x.Text, x.Type, x.Args = strings.Clone(x.Text), strings.Clone(x.Type), copyExprs(x.Args)
	return x
}

func copyStmt(s api.Stmt) api.Stmt {
	s.Name, s.E, s.Body, s.Else = strings.Clone(s.Name), copyExprs(s.E), copyStmts(s.Body), copyStmts(s.Else)
	return s
}

func copySlot(s api.Slot) api.Slot {
	return api.Slot{Name: strings.Clone(s.Name), Type: strings.Clone(s.Type), At: s.At}
}

func copyProg(p api.Prog) api.Prog {
	p.States = copyEach(p.States, copySlot)
	p.Fns = copyEach(p.Fns, func(f api.Fn) api.Fn {
		f.Name, f.Result = strings.Clone(f.Name), strings.Clone(f.Result)
		f.Params, f.Locals, f.Body = copyEach(f.Params, copySlot), copyEach(f.Locals, strings.Clone), copyStmts(f.Body)
		return f
	})
	return p
}

// Programs, states, commands by chance.

func newRand(seed uint64) *rand.Rand       { return rand.New(rand.NewPCG(12, seed)) }
func pick[T any](r *rand.Rand, list []T) T { return list[r.IntN(len(list))] }

// maker makes the texts of programs that are right, with much in them that is always the same.
type maker struct {
	r     *rand.Rand
	heads []api.Fn
	sight []api.Slot // locals; At is 1 of a for's
	count int        // locals of the function
	left  int        // about how many parts may still come in it
}

const someStates = "state n: int; state b: bool; state s: text; state l: [int]; state m: {text:int};\n"

var (
	someTypes   = strings.Fields("int bool text [int] {text:int}")
	someNumbers = strings.Fields("0 0 1 1 2 2 3 4 7 10 255 9223372036854775807 4611686018427387904")
	someTexts   = []string{"", "", "a", "a", "b", "ab", "-1", `\"`, strings.Repeat("z", 130)}
	someTurns   = strings.Fields("0 0 1 1 2 3 5 -1 -9223372036854775807 9223372036854775807 5000")
)

func (m *maker) prog() string {
	m.heads = nil
	var b strings.Builder
	b.WriteString("version 1;\n" + someStates)
	for i := range 1 + m.r.IntN(5) {
		f := api.Fn{Name: fmt.Sprint("f", i), On: i == 0 || m.r.IntN(2) == 0, Result: pick(m.r, someTypes)}
		m.sight, m.count, m.left = nil, 0, 20+m.r.IntN(100)
		var params []string
		for range m.r.IntN(4) {
			f.Params = append(f.Params, m.fresh(pick(m.r, someTypes), 0))
			params = append(params, f.Params[len(f.Params)-1].Name+": "+f.Params[len(f.Params)-1].Type)
		}
		word := map[bool]string{true: "on", false: "fn"}[f.On]
		fmt.Fprintf(&b, "%s %s(%s): %s %s\n", word, f.Name, strings.Join(params, ", "), f.Result, m.block(4, f.Result))
		m.heads = append(m.heads, f)
	}
	return b.String()
}

func (m *maker) fresh(of string, turn int) api.Slot {
	s := api.Slot{Name: fmt.Sprint("v", len(m.sight)), Type: of, At: turn}
	m.sight, m.count = append(slices.Clone(m.sight), s), m.count+1
	return s
}

func (m *maker) block(depth int, result string) string {
	sight := m.sight
	var b strings.Builder
	b.WriteString("{")
	for m.left > 0 && m.r.IntN(5) > 0 {
		b.WriteString(" " + m.stmt(depth, result))
	}
	m.sight = sight
	return b.String() + " }"
}

func (m *maker) stmt(depth int, result string) string {
	m.left--
	choices := strings.Fields("let set set set put del if if if for for for ret")
	if depth == 0 {
		choices = choices[:6]
	}
	choice := pick(m.r, choices)
	if m.count >= 30 && (choice == "let" || choice == "for") {
		choice = "set"
	}
	switch choice {
	case "let":
		of := pick(m.r, someTypes)
		x := m.expr(of, 3)
		return "let " + m.fresh(of, 0).Name + " = " + x + ";"
	case "put":
		return pick(m.r, []string{"set l[" + m.expr("int", 1) + "]", "set m[" + m.expr("text", 2) + "]"}) + " = " + m.expr("int", 3) + ";"
	case "del":
		return "del m[" + m.expr("text", 2) + "];"
	case "if":
		s := "if " + m.expr("bool", 3) + " " + m.block(depth-1, result)
		if m.r.IntN(2) == 0 {
			s += " else " + m.block(depth-1, result)
		}
		return s
	case "for":
		return m.loop(depth, result)
	case "ret":
		return "ret " + m.expr(result, 3) + ";"
	}
	return m.set()
}

// set makes one of a state, or of a local that may be set.
func (m *maker) set() string {
	all := []api.Slot{{Name: "n", Type: "int"}, {Name: "b", Type: "bool"}, {Name: "s", Type: "text"}, {Name: "l", Type: "[int]"}}
	for _, x := range m.sight {
		if x.At == 0 {
			all = append(all, x)
		}
	}
	x := pick(m.r, all)
	return "set " + x.Name + " = " + m.expr(x.Type, 3) + ";"
}

func (m *maker) loop(depth int, result string) string {
	n := pick(m.r, someTurns)
	switch m.r.IntN(6) {
	case 0:
		n = m.expr("int", 2)
	case 1:
		n = fmt.Sprintf("%d - %d", m.r.IntN(6), m.r.IntN(4))
	}
	sight := m.sight
	s := "for " + m.fresh("int", 1).Name + " to " + n + " "
	if m.r.IntN(3) == 0 {
		s += "{}"
	} else {
		s += m.block(depth-1, result)
	}
	m.sight = sight
	return s
}

// expr makes one of a type.
func (m *maker) expr(of string, depth int) string {
	m.left--
	if depth == 0 || m.r.IntN(4) == 0 {
		return m.leaf(of)
	}
	if m.r.IntN(10) == 0 {
		if s := m.call(of, depth-1); s != "" {
			return s
		}
	}
	sub := func(t string) string { return m.expr(t, depth-1) }
	pair := func(t, some string) string {
		return "(" + sub(t) + " " + pick(m.r, strings.Fields(some)) + " " + sub(t) + ")"
	}
	n := m.r.IntN(10)
	switch {
	case of == "int" && n == 0:
		return "-" + sub("int")
	case of == "int" && n < 3:
		return "len(" + sub(pick(m.r, []string{"text", "text", "[int]", "{text:int}"})) + ")"
	case of == "int" && n == 3:
		return pick(m.r, []string{"l[" + sub("int") + "]", "m[" + sub("text") + "]"})
	case of == "int":
		return pair("int", "+ + + - - * * / %")
	case of == "bool" && n == 0:
		return "!" + sub("bool")
	case of == "bool" && n == 1:
		return "has(" + sub("{text:int}") + ", " + sub("text") + ")"
	case of == "bool" && n < 6:
		return pair("bool", "&& ||")
	case of == "bool" && n == 6:
		return pair(pick(m.r, someTypes), "== !=")
	case of == "bool":
		return pair(pick(m.r, []string{"int", "text"}), "== != < <= > >=")
	case of == "text" && n < 3:
		return "str(" + sub("int") + ")"
	case of == "text":
		return pair("text", "+")
	case of == "[int]":
		return "push(" + sub("[int]") + ", " + sub("int") + ")"
	}
	return m.leaf(of)
}

// call makes a call of a function of that type; nothing, if there is none.
func (m *maker) call(of string, depth int) string {
	for _, f := range m.heads {
		if f.On || f.Result != of {
			continue
		}
		var args []string
		for _, s := range f.Params {
			args = append(args, m.expr(s.Type, depth))
		}
		return f.Name + "(" + strings.Join(args, ", ") + ")"
	}
	return ""
}

// leaf makes a constant, if there is one of the type, or a name.
func (m *maker) leaf(of string) string {
	i := slices.Index(someTypes, of)
	if i < 3 && m.r.IntN(5) < 3 {
		return []string{pick(m.r, someNumbers), pick(m.r, []string{"true", "false"}), lex.Quote(pick(m.r, someTexts))}[i]
	}
	names := []string{strings.Fields("n b s l m")[i]}
	for _, x := range m.sight {
		if x.Type == of {
			names = append(names, x.Name)
		}
	}
	return pick(m.r, names)
}

// value makes one of a type.
func (m *maker) value(t string) api.Value {
	switch t {
	case "int":
		n, _ := strconv.Atoi(pick(m.r, someNumbers))
		return api.Value{Kind: 1, Num: n - m.r.IntN(3)}
	case "bool":
		return api.Value{Kind: 2, Num: m.r.IntN(2)}
	case "text":
		return api.Value{Kind: 3, Text: pick(m.r, someTexts)}
	case "[int]":
		v := api.Value{Kind: 4}
		for range pick(m.r, []int{0, 1, 3, 64}) {
			v.List = append(v.List, m.value("int"))
		}
		return v
	}
	v := api.Value{Kind: 5}
	for _, s := range slices.Compact(slices.Sorted(slices.Values(someTexts))) {
		if m.r.IntN(2) == 0 {
			v.List = append(v.List, api.Value{Kind: 3, Text: s}, m.value("int"))
		}
	}
	return v
}

func (m *maker) states() []api.Value {
	var out []api.Value
	for _, s := range someTypes {
		out = append(out, m.value(s))
	}
	return out
}

// command makes one that names a handler, but for a few.
func (m *maker) command() api.Command {
	f := pick(m.r, m.heads)
	for !f.On && m.r.IntN(10) > 0 {
		f = pick(m.r, m.heads)
	}
	c := api.Command{Name: f.Name}
	for _, s := range f.Params {
		c.Args = append(c.Args, m.value(s.Type))
	}
	if m.r.IntN(40) == 0 {
		c.Args = append(c.Args, m.value("int"))
	}
	return c
}
