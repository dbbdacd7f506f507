package types

import (
	"fmt"
	"math/rand/v2"
	"slices"
	"strings"

	"quern/api"
)

// The plain checker answers faults as values and has no map of names: what is in sight is a list that is handed on.
// What a type is made of, and what operators take, it looks up in tables.

// shape is what a type is made of: kind is "[" of a list, "{" of a map.
type shape struct{ kind, key, inner string }

var shapes = allShapes(4)

func allShapes(depth int) map[string]shape {
	out := map[string]shape{"int": {}, "bool": {}, "text": {}}
	if depth > 1 {
		for inner := range allShapes(depth - 1) {
			out["["+inner+"]"] = shape{"[", "int", inner}
			out["{int:"+inner+"}"] = shape{"{", "int", inner}
			out["{text:"+inner+"}"] = shape{"{", "text", inner}
		}
	}
	return out
}

var plainTypes = sortedTypes()

func sortedTypes() []string {
	var out []string
	for s := range shapes {
		out = append(out, s)
	}
	slices.Sort(out)
	return out
}

var (
	builtins      = strings.Fields("len has push str")
	reservedWords = strings.Fields("version state fn on let set del if else for to ret true false int bool text")
	opMarks       = strings.Fields("|| && == != < <= > >= + - * / %")
)

// opRules has, by a mark and the type of both its sides, its own; == and != stand for themselves.
var opRules = map[[2]string]string{
	{"||", "bool"}: "bool", {"&&", "bool"}: "bool",
	{"<", "int"}: "bool", {"<=", "int"}: "bool", {">", "int"}: "bool", {">=", "int"}: "bool",
	{"<", "text"}: "bool", {"<=", "text"}: "bool", {">", "text"}: "bool", {">=", "text"}: "bool",
	{"+", "int"}: "int", {"+", "text"}: "text", {"-", "int"}: "int", {"*", "int"}: "int", {"/", "int"}: "int", {"%", "int"}: "int",
}

// plainOp answers the type of what stands between these two, "" if it can't.
func plainOp(mark, left, right string) string {
	if left != right {
		return ""
	}
	if mark == "==" || mark == "!=" {
		return "bool"
	}
	return opRules[[2]string{mark, left}]
}

// Whether a program can stand in a text.

func plainName(s string) bool {
	const letters, digits = "abcdefghijklmnopqrstuvwxyz_", "0123456789"
	return s != "" && len(s) <= 16 && strings.Trim(s, letters+digits) == "" && strings.Contains(letters, s[:1]) && !slices.Contains(reservedWords, s)
}

func plainSlot(s api.Slot) bool {
	_, isType := shapes[s.Type]
	return isType && plainName(s.Name)
}

func every[T any](l []T, is func(T) bool) bool {
	return !slices.ContainsFunc(l, func(x T) bool { return !is(x) })
}

func plainCan(p api.Prog) bool {
	return p.Version >= 0 && every(p.States, plainSlot) && every(p.Fns, func(f api.Fn) bool {
		return plainSlot(api.Slot{Name: f.Name, Type: f.Result}) && every(f.Params, plainSlot) && every(f.Body, plainStmt)
	})
}

func plainStmt(s api.Stmt) bool {
	if s.Kind < 1 || s.Kind > 6 || len(s.E) == 0 || len(s.E) > 2 || len(s.E) == 2 && s.Kind != 2 {
		return false
	}
	bare, isIf, isFor := s.Kind == 4 || s.Kind == 6, s.Kind == 4, s.Kind == 5
	return every(s.E, plainExpr) && (bare || plainName(s.Name)) && (!isIf && !isFor || every(s.Body, plainStmt)) && (!isIf || every(s.Else, plainStmt))
}

func plainExpr(x api.Expr) bool {
	args := map[int]int{7: len(x.Args), 12: 2, 13: 1, 14: 1, 15: 2}[x.Kind]
	if len(x.Args) != args || !every(x.Args, plainExpr) {
		return false
	}
	switch x.Kind {
	case 1:
		return x.Num >= 0
	case 2:
		return x.Num == 0 || x.Num == 1
	case 3:
		return len(x.Text) <= 256 && every([]byte(x.Text), func(b byte) bool { return b >= 0x20 && b <= 0x7e })
	case 6, 7:
		return plainName(x.Text)
	case 15:
		return x.Op >= 1 && x.Op <= 13
	}
	return x.Kind >= 12 && x.Kind <= 14
}

// stop is the first fault; nil is none.
type stop struct {
	at int
	e  api.Errno
}

// seen is a local in sight.
type seen struct {
	name string
	slot int
	of   string
	turn bool
}

// plain is a function under way.
type plain struct {
	p      api.Prog
	number int
	locals []string
}

func plainCheck(p api.Prog) (api.Prog, int, api.Errno) {
	if !plainCan(p) {
		return api.Prog{}, 0, api.ErrForm
	}
	if p.Version == 0 || p.Version > 1099511627776 {
		return api.Prog{}, 0, api.ErrVersion
	}
	if s := plainNames(p); s != nil {
		return api.Prog{}, s.at, s.e
	}
	out := api.Prog{Version: p.Version, States: bareSlots(p.States)}
	for i := range p.Fns {
		m := plain{p: p, number: i}
		f, s := m.function()
		if s != nil {
			return api.Prog{}, s.at, s.e
		}
		out.Fns = append(out.Fns, f)
	}
	return out, 0, api.OK
}

func bareSlots(l []api.Slot) []api.Slot {
	var out []api.Slot
	for _, s := range l {
		out = append(out, api.Slot{Name: s.Name, Type: s.Type})
	}
	return out
}

func plainNames(p api.Prog) *stop {
	names := slices.Clone(builtins)
	for i, s := range p.States {
		if i == 32 {
			return &stop{s.At, api.ErrMany}
		}
		if slices.Contains(names, s.Name) {
			return &stop{s.At, api.ErrTwice}
		}
		names = append(names, s.Name)
	}
	for i, f := range p.Fns {
		if i == 32 {
			return &stop{f.At, api.ErrMany}
		}
		if slices.Contains(names, f.Name) {
			return &stop{f.At, api.ErrTwice}
		}
		if len(f.Params) >= 9 {
			return &stop{f.Params[8].At, api.ErrMany}
		}
		names = append(names, f.Name)
	}
	return nil
}

func (m *plain) state(name string) int {
	return slices.IndexFunc(m.p.States, func(s api.Slot) bool { return s.Name == name })
}

func (m *plain) fn(name string) int {
	return slices.IndexFunc(m.p.Fns, func(f api.Fn) bool { return f.Name == name })
}

func local(sight []seen, name string) int {
	return slices.IndexFunc(sight, func(x seen) bool { return x.name == name })
}

// more answers what is in sight with one more local.
func (m *plain) more(sight []seen, at int, x seen) ([]seen, *stop) {
	if m.state(x.name) >= 0 || m.fn(x.name) >= 0 || slices.Contains(builtins, x.name) || local(sight, x.name) >= 0 {
		return nil, &stop{at, api.ErrTwice}
	}
	if len(m.locals) == 32 {
		return nil, &stop{at, api.ErrMany}
	}
	x.slot = len(m.locals)
	m.locals = append(m.locals, x.of)
	return append(slices.Clone(sight), x), nil
}

func (m *plain) function() (api.Fn, *stop) {
	f := m.p.Fns[m.number]
	var sight []seen
	var s *stop
	for _, x := range f.Params {
		if sight, s = m.more(sight, x.At, seen{name: x.Name, of: x.Type}); s != nil {
			return api.Fn{}, s
		}
	}
	body, s := m.block(f.Body, sight)
	return api.Fn{Name: f.Name, On: f.On, Params: bareSlots(f.Params), Result: f.Result, Locals: m.locals, Body: body}, s
}

func (m *plain) block(l []api.Stmt, sight []seen) ([]api.Stmt, *stop) {
	var out []api.Stmt
	for _, x := range l {
		y, more, s := m.stmt(x, sight)
		if s != nil {
			return nil, s
		}
		out, sight = append(out, y), more
	}
	return out, nil
}

// stmt answers a statement, and what is in sight behind it.
func (m *plain) stmt(x api.Stmt, sight []seen) (api.Stmt, []seen, *stop) {
	out := api.Stmt{Kind: x.Kind}
	asks := []string{""} // the types that are asked of its exprs
	var s *stop
	switch x.Kind {
	case api.SSet, api.SDel:
		if asks, s = m.target(x, &out, sight); s != nil {
			return out, nil, s
		}
	case api.SIf:
		asks[0] = "bool"
	case api.SFor:
		asks[0] = "int"
	case api.SRet:
		asks[0] = m.p.Fns[m.number].Result
	}
	for i, ask := range asks {
		y, s := m.asked(x.E[i], sight, ask)
		if s != nil {
			return out, nil, s
		}
		out.E = append(out.E, y)
	}
	inner := sight
	switch x.Kind {
	case api.SLet:
		out.Slot = len(m.locals)
		sight, s = m.more(sight, x.At, seen{name: x.Name, of: out.E[0].Type})
	case api.SFor:
		out.Slot = len(m.locals)
		inner, s = m.more(sight, x.At, seen{name: x.Name, of: "int", turn: true})
	}
	if s == nil && (x.Kind == api.SIf || x.Kind == api.SFor) {
		out.Body, s = m.block(x.Body, inner)
	}
	if s == nil && x.Kind == api.SIf {
		out.Else, s = m.block(x.Else, inner)
	}
	return out, sight, s
}

// target looks for what a set or a del names, and answers the types that its exprs must have.
func (m *plain) target(x api.Stmt, out *api.Stmt, sight []seen) ([]string, *stop) {
	var of string
	if i := local(sight, x.Name); i >= 0 {
		if sight[i].turn {
			return nil, &stop{x.At, api.ErrPlace}
		}
		out.Slot, of = sight[i].slot, sight[i].of
	} else if i := m.state(x.Name); i >= 0 {
		out.Slot, out.State, of = i, true, m.p.States[i].Type
	} else if m.fn(x.Name) >= 0 {
		return nil, &stop{x.At, api.ErrPlace}
	} else {
		return nil, &stop{x.At, api.ErrName}
	}
	parts := shapes[of]
	switch {
	case x.Kind == api.SDel && parts.kind != "{", len(x.E) == 2 && parts.kind == "":
		return nil, &stop{x.At, api.ErrType}
	case x.Kind == api.SDel:
		return []string{parts.key}, nil
	case len(x.E) == 2:
		return []string{parts.key, parts.inner}, nil
	}
	return []string{of}, nil
}

// asked answers an expr of a type, any type if ask is empty.
func (m *plain) asked(x api.Expr, sight []seen, ask string) (api.Expr, *stop) {
	y, s := m.expr(x, sight)
	if s == nil && ask != "" && y.Type != ask {
		s = &stop{x.At, api.ErrType}
	}
	return y, s
}

func (m *plain) expr(x api.Expr, sight []seen) (api.Expr, *stop) {
	switch x.Kind {
	case api.EInt:
		return api.Expr{Kind: 1, Num: x.Num, Type: "int"}, nil
	case api.EBool:
		return api.Expr{Kind: 2, Num: x.Num, Type: "bool"}, nil
	case api.EText:
		return api.Expr{Kind: 3, Text: x.Text, Type: "text"}, nil
	case api.EName:
		if i := local(sight, x.Text); i >= 0 {
			return api.Expr{Kind: 4, Slot: sight[i].slot, Type: sight[i].of}, nil
		}
		if i := m.state(x.Text); i >= 0 {
			return api.Expr{Kind: 5, Slot: i, Type: m.p.States[i].Type}, nil
		}
		return api.Expr{}, &stop{x.At, api.ErrName}
	case api.ECall:
		return m.call(x, sight)
	}
	return m.marked(x, sight)
}

// marked is an expr of an operator or a bracket.
func (m *plain) marked(x api.Expr, sight []seen) (api.Expr, *stop) {
	out := api.Expr{Kind: x.Kind}
	ask := map[int]string{13: "int", 14: "bool"}[x.Kind]
	for i, arg := range x.Args {
		y, s := m.asked(arg, sight, ask)
		if s != nil {
			return out, s
		}
		out.Args = append(out.Args, y)
		if x.Kind == api.EAt && i == 0 {
			if shapes[y.Type].kind == "" {
				return out, &stop{x.At, api.ErrType}
			}
			ask = shapes[y.Type].key
		}
	}
	switch x.Kind {
	case api.EAt:
		out.Type = shapes[out.Args[0].Type].inner
	case api.EBin:
		out.Op, out.Type = x.Op, plainOp(opMarks[x.Op-1], out.Args[0].Type, out.Args[1].Type)
		if out.Type == "" {
			return out, &stop{x.At, api.ErrType}
		}
	default:
		out.Type = ask
	}
	return out, nil
}

func (m *plain) call(x api.Expr, sight []seen) (api.Expr, *stop) {
	if i := slices.Index(builtins, x.Text); i >= 0 {
		return m.builtin(x, i, sight)
	}
	i := m.fn(x.Text)
	if i < 0 || i >= m.number || m.p.Fns[i].On {
		return api.Expr{}, &stop{x.At, api.ErrName}
	}
	f := m.p.Fns[i]
	if len(f.Params) != len(x.Args) {
		return api.Expr{}, &stop{x.At, api.ErrType}
	}
	out := api.Expr{Kind: 7, Slot: i, Type: f.Result}
	for j, arg := range x.Args {
		y, s := m.asked(arg, sight, f.Params[j].Type)
		if s != nil {
			return out, s
		}
		out.Args = append(out.Args, y)
	}
	return out, nil
}

func (m *plain) builtin(x api.Expr, i int, sight []seen) (api.Expr, *stop) {
	if len(x.Args) != []int{1, 2, 2, 1}[i] {
		return api.Expr{}, &stop{x.At, api.ErrType}
	}
	out := api.Expr{Kind: 8 + i}
	y, s := m.expr(x.Args[0], sight)
	if s != nil {
		return out, s
	}
	kind := shapes[y.Type].kind
	fits := []bool{kind != "" || y.Type == "text", kind == "{", kind == "[", y.Type == "int"}[i]
	if !fits {
		return out, &stop{x.Args[0].At, api.ErrType}
	}
	out.Type = []string{"int", "bool", y.Type, "text"}[i]
	out.Args = append(out.Args, y)
	if len(x.Args) == 2 {
		ask := map[string]string{"{": shapes[y.Type].key, "[": shapes[y.Type].inner}[kind]
		y, s = m.asked(x.Args[1], sight, ask)
		out.Args = append(out.Args, y)
	}
	return out, s
}

func newRand(seed uint64) *rand.Rand       { return rand.New(rand.NewPCG(10, seed)) }
func pick[T any](r *rand.Rand, list []T) T { return list[r.IntN(len(list))] }

// maker makes programs that are right, by chance.
type maker struct {
	r     *rand.Rand
	p     api.Prog
	types []string // those that the program has
	sight []seen
	count int // locals of the function
	left  int // about how many exprs and statements may still come
}

var (
	localNames = strings.Fields("a b c d i j lens has_ x1 _ an_abcdefghij_0")
	someTexts  = []string{"", "a", "len", `"\`, strings.Repeat("z", 256)}
	someTypes  = strings.Fields("[int] [text] {int:int} {text:[int]} {int:bool} [[text]] {text:{int:text}} [{int:[bool]}] [bool] {text:text}")
)

// prog makes a program with a state of each of its types, so that there is an expr of each.
func (m *maker) prog() api.Prog {
	m.types = strings.Fields("int bool text")
	for range m.r.IntN(4) {
		for s := pick(m.r, someTypes); s != "" && !slices.Contains(m.types, s); s = shapes[s].inner {
			m.types = append(m.types, s)
		}
	}
	m.p = api.Prog{Version: 1 + m.r.IntN(3)}
	for i, s := range m.types {
		m.p.States = append(m.p.States, api.Slot{Name: fmt.Sprint("s", i), Type: s})
	}
	m.r.Shuffle(len(m.types), func(i, j int) { m.p.States[i], m.p.States[j] = m.p.States[j], m.p.States[i] })
	for i := range m.r.IntN(5) {
		f := api.Fn{Name: fmt.Sprint("f", i), On: m.r.IntN(3) == 0, Result: pick(m.r, m.types)}
		m.sight, m.count, m.left = nil, 0, m.r.IntN(80)
		for range m.r.IntN(4) {
			f.Params = append(f.Params, api.Slot{Name: m.fresh(), Type: pick(m.r, m.types)})
			m.add(seen{name: f.Params[len(f.Params)-1].Name, of: f.Params[len(f.Params)-1].Type})
		}
		m.p.Fns = append(m.p.Fns, f)
		m.p.Fns[i].Body = m.stmts(4)
	}
	number(m.r, &m.p)
	return m.p
}

func (m *maker) add(x seen) { m.sight, m.count = append(slices.Clone(m.sight), x), m.count+1 }

// fresh answers a name that isn't in sight.
func (m *maker) fresh() string {
	for {
		if s := pick(m.r, localNames); local(m.sight, s) < 0 {
			return s
		}
	}
}

func (m *maker) stmts(depth int) []api.Stmt {
	sight := m.sight
	var out []api.Stmt
	for m.left > 0 && m.r.IntN(6) > 0 {
		out = append(out, m.stmt(depth))
	}
	m.sight = sight
	return out
}

func (m *maker) stmt(depth int) api.Stmt {
	m.left--
	kinds := []int{1, 1, 2, 2, 2, 3, 4, 5, 6}
	if depth <= 0 {
		kinds = []int{1, 2, 2, 3, 6}
	}
	s := api.Stmt{Kind: pick(m.r, kinds)}
	if (s.Kind == 1 || s.Kind == 5) && (m.count == 32 || len(m.sight) == len(localNames)) {
		s.Kind = 6
	}
	switch s.Kind {
	case api.SLet:
		of := pick(m.r, m.types)
		s.E, s.Name = m.exprs(of), m.fresh()
		m.add(seen{name: s.Name, of: of})
	case api.SSet, api.SDel:
		m.change(&s)
	case api.SIf:
		s.E = m.exprs("bool")
		s.Body, s.Else = m.stmts(depth-1), m.stmts(depth-1)
	case api.SFor:
		sight := m.sight
		s.E, s.Name = m.exprs("int"), m.fresh()
		m.add(seen{name: s.Name, of: "int", turn: true})
		s.Body = m.stmts(depth - 1)
		m.sight = sight
	case api.SRet:
		s.E = m.exprs(m.p.Fns[len(m.p.Fns)-1].Result)
	}
	return s
}

// change makes a set or a del of what there is; a set, if nothing can be deleted from.
func (m *maker) change(s *api.Stmt) {
	var all []seen
	for _, x := range slices.Concat(m.sight, m.states()) {
		if !x.turn && (s.Kind != api.SDel || shapes[x.of].kind == "{") {
			all = append(all, x)
		}
	}
	if len(all) == 0 {
		s.Kind, all = api.SSet, m.states()
	}
	x := pick(m.r, all)
	parts := shapes[x.of]
	s.Name = x.name
	switch {
	case s.Kind == api.SDel:
		s.E = m.exprs(parts.key)
	case parts.kind != "" && m.r.IntN(3) > 0:
		s.E = m.exprs(parts.key, parts.inner)
	default:
		s.E = m.exprs(x.of)
	}
}

func (m *maker) states() []seen {
	var out []seen
	for _, s := range m.p.States {
		out = append(out, seen{name: s.Name, of: s.Type})
	}
	return out
}

// exprs makes exprs of these types.
func (m *maker) exprs(types ...string) []api.Expr {
	var out []api.Expr
	for _, of := range types {
		out = append(out, m.expr(of))
	}
	return out
}

func (m *maker) expr(of string) api.Expr {
	m.left--
	var ways []func() api.Expr
	way := func(f func() api.Expr) { ways = append(ways, f) }
	for _, x := range slices.Concat(m.sight, m.states()) {
		if x.of == of {
			way(func() api.Expr { return api.Expr{Kind: api.EName, Text: x.name} })
		}
	}
	if m.left > 0 && m.r.IntN(4) > 0 {
		m.greater(of, way)
	}
	switch of {
	case "int":
		way(func() api.Expr { return api.Expr{Kind: api.EInt, Num: m.r.IntN(9)} })
	case "bool":
		way(func() api.Expr { return api.Expr{Kind: api.EBool, Num: m.r.IntN(2)} })
	case "text":
		way(func() api.Expr { return api.Expr{Kind: api.EText, Text: pick(m.r, someTexts)} })
	}
	return pick(m.r, ways)()
}

// greater hands on the ways to make an expr of this type from others.
func (m *maker) greater(of string, way func(func() api.Expr)) {
	call := func(name string, types ...string) {
		way(func() api.Expr { return api.Expr{Kind: api.ECall, Text: name, Args: m.exprs(types...)} })
	}
	marked := func(kind int, types ...string) {
		way(func() api.Expr { return api.Expr{Kind: kind, Args: m.exprs(types...)} })
	}
	for _, f := range m.p.Fns[:len(m.p.Fns)-1] {
		if f.Result == of && !f.On {
			var types []string
			for _, s := range f.Params {
				types = append(types, s.Type)
			}
			call(f.Name, types...)
		}
	}
	for _, t := range m.types {
		parts := shapes[t]
		if parts.kind != "" && parts.inner == of {
			marked(api.EAt, t, parts.key)
		}
		if of == "int" && (parts.kind != "" || t == "text") {
			call("len", t)
		}
		if of == "bool" && parts.kind == "{" {
			call("has", t, parts.key)
		}
		for i, mark := range opMarks {
			if plainOp(mark, t, t) == of {
				way(func() api.Expr { return api.Expr{Kind: api.EBin, Op: i + 1, Args: m.exprs(t, t)} })
			}
		}
	}
	switch {
	case of == "int":
		marked(api.ENeg, of)
	case of == "bool":
		marked(api.ENot, of)
	case of == "text":
		call("str", "int")
	case shapes[of].kind == "[":
		call("push", of, shapes[of].inner)
	}
}

// visitor is handed each part of a program, those that don't stand in its text left out.
type visitor struct {
	slots func(*[]api.Slot)
	slot  func(*api.Slot)
	fn    func(*api.Fn)
	block func(*[]api.Stmt)
	stmt  func(*api.Stmt)
	expr  func(*api.Expr)
}

func (v visitor) prog(p *api.Prog) {
	v.slotList(&p.States)
	for i := range p.Fns {
		f := &p.Fns[i]
		v.fn(f)
		v.slotList(&f.Params)
		v.stmts(&f.Body)
	}
}

func (v visitor) slotList(l *[]api.Slot) {
	if v.slots != nil {
		v.slots(l)
	}
	for i := range *l {
		v.slot(&(*l)[i])
	}
}

func (v visitor) stmts(l *[]api.Stmt) {
	if v.block != nil {
		v.block(l)
	}
	for i := range *l {
		s := &(*l)[i]
		v.stmt(s)
		v.exprs(s.E)
		if s.Kind == api.SIf || s.Kind == api.SFor {
			v.stmts(&s.Body)
		}
		if s.Kind == api.SIf {
			v.stmts(&s.Else)
		}
	}
}

func (v visitor) exprs(l []api.Expr) {
	for i := range l {
		v.expr(&l[i])
		v.exprs(l[i].Args)
	}
}

// number gives each part a place of its own, by chance.
func number(r *rand.Rand, p *api.Prog) {
	at := func() int { return 1 + r.IntN(1<<40) }
	visitor{
		slot: func(s *api.Slot) { s.At = at() },
		fn:   func(f *api.Fn) { f.At = at() },
		stmt: func(s *api.Stmt) { s.At = at() },
		expr: func(x *api.Expr) { x.At = at() },
	}.prog(p)
}

// junk fills what isn't looked at.
func junk(r *rand.Rand, p *api.Prog) {
	some := func() int { return r.IntN(40) - 8 }
	visitor{
		slot: func(s *api.Slot) {},
		fn:   func(f *api.Fn) { f.Locals = []string{"int", "?"} },
		stmt: func(s *api.Stmt) {
			s.Slot, s.Num, s.State = some(), some(), true
			if s.Kind == 4 || s.Kind == 6 {
				s.Name = "1"
			}
			if s.Kind != 4 {
				s.Else = []api.Stmt{{Kind: some()}}
			}
			if s.Kind != 4 && s.Kind != 5 {
				s.Body = []api.Stmt{{Kind: 1, Name: "a", E: []api.Expr{{Kind: 6, Text: "nowhere"}}}}
			}
		},
		expr: func(x *api.Expr) {
			x.Slot, x.Type = some(), pick(r, []string{"int", "?", "[int]"})
			if x.Kind > 2 {
				x.Num = some()
			}
			if x.Kind != 15 {
				x.Op = some()
			}
			if x.Kind != 3 && x.Kind != 6 && x.Kind != 7 {
				x.Text = "if\n"
			}
		},
	}.prog(p)
}
