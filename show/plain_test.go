package show

import (
	"math/rand/v2"
	"slices"
	"strconv"
	"strings"

	"quern/api"
	"quern/parse"
)

// The plain shower asks first whether a program can stand in a text, by the chapter's list; then it lays the text, whatever its length.
// Where round brackets stand it doesn't know: of each expr and the one in which it stands it asks Parse, whether they are read as others without.

func plainShow(p api.Prog) (string, api.Errno) {
	if !plainCan(p) {
		return "", api.ErrForm
	}
	s := plainText(p)
	if len(s) > 16384 {
		return "", api.ErrLong
	}
	return s, api.OK
}

const reservedWords = "version state fn on let set del if else for to ret true false int bool text"

var reservedList = strings.Fields(reservedWords)

func plainName(s string) bool {
	const letters, digits = "abcdefghijklmnopqrstuvwxyz_", "0123456789"
	return s != "" && len(s) <= 16 && strings.Trim(s, letters+digits) == "" && strings.Contains(letters, s[:1]) && !slices.Contains(reservedList, s)
}

// allTypes answers all types of at most this depth.
func allTypes(depth int) []string {
	out := []string{"int", "bool", "text"}
	if depth == 1 {
		return out
	}
	for _, inner := range allTypes(depth - 1) {
		out = append(out, "["+inner+"]", "{int:"+inner+"}", "{text:"+inner+"}")
	}
	return out
}

var plainTypes = allTypes(4)

func plainType(s string) bool { return slices.Contains(plainTypes, s) }

func plainSlots(l []api.Slot) bool {
	return !slices.ContainsFunc(l, func(s api.Slot) bool { return !plainName(s.Name) || !plainType(s.Type) })
}

func plainCan(p api.Prog) bool {
	if p.Version < 0 || !plainSlots(p.States) {
		return false
	}
	return !slices.ContainsFunc(p.Fns, func(f api.Fn) bool {
		return !plainName(f.Name) || !plainType(f.Result) || !plainSlots(f.Params) || !plainStmts(f.Body)
	})
}

func plainStmts(l []api.Stmt) bool {
	return !slices.ContainsFunc(l, func(s api.Stmt) bool { return !plainStmt(s) })
}

func plainStmt(s api.Stmt) bool {
	if s.Kind < 1 || s.Kind > 6 || len(s.E) == 0 || len(s.E) > 2 || len(s.E) == 2 && s.Kind != 2 {
		return false
	}
	named, isIf, isFor := s.Kind != 4 && s.Kind != 6, s.Kind == 4, s.Kind == 5
	return plainExprs(s.E) && (!named || plainName(s.Name)) && (!isIf && !isFor || plainStmts(s.Body)) && (!isIf || plainStmts(s.Else))
}

func plainExprs(l []api.Expr) bool {
	return !slices.ContainsFunc(l, func(x api.Expr) bool { return !plainExpr(x) })
}

// rightArgs answers how many Args an expr of this kind has, -1 if it is any number.
func rightArgs(kind int) int {
	return map[int]int{7: -1, 12: 2, 15: 2, 13: 1, 14: 1}[kind]
}

func plainExpr(x api.Expr) bool {
	if n := rightArgs(x.Kind); n >= 0 && n != len(x.Args) || !plainExprs(x.Args) {
		return false
	}
	switch x.Kind {
	case 1:
		return x.Num >= 0
	case 2:
		return x.Num == 0 || x.Num == 1
	case 3:
		outside := func(b byte) bool { return b < 0x20 || b > 0x7e }
		return len(x.Text) <= 256 && !slices.ContainsFunc([]byte(x.Text), outside)
	case 6, 7:
		return plainName(x.Text)
	case 15:
		return x.Op >= 1 && x.Op <= 13
	}
	return x.Kind >= 12 && x.Kind <= 14
}

func plainText(p api.Prog) string {
	s := "version " + strconv.Itoa(p.Version) + ";\n"
	for _, slot := range p.States {
		s += "state " + slot.Name + ": " + slot.Type + ";\n"
	}
	for _, f := range p.Fns {
		var params []string
		for _, slot := range f.Params {
			params = append(params, slot.Name+": "+slot.Type)
		}
		word := map[bool]string{false: "fn", true: "on"}[f.On]
		s += word + " " + f.Name + "(" + strings.Join(params, ", ") + "): " + f.Result + " " + blockText(f.Body) + "\n"
	}
	return s
}

// blockText lays the statements without tabs ahead, and then puts one ahead of each line.
func blockText(l []api.Stmt) string {
	if len(l) == 0 {
		return "{}"
	}
	var lines []string
	for _, s := range l {
		lines = append(lines, stmtText(s))
	}
	return "{" + strings.ReplaceAll("\n"+strings.Join(lines, "\n"), "\n", "\n\t") + "\n}"
}

func stmtText(s api.Stmt) string {
	var e []string
	for _, x := range s.E {
		e = append(e, exprText(x))
	}
	switch s.Kind {
	case 1:
		return "let " + s.Name + " = " + e[0] + ";"
	case 2:
		if len(e) == 2 {
			return "set " + s.Name + "[" + e[0] + "] = " + e[1] + ";"
		}
		return "set " + s.Name + " = " + e[0] + ";"
	case 3:
		return "del " + s.Name + "[" + e[0] + "];"
	case 4:
		if len(s.Else) > 0 {
			return "if " + e[0] + " " + blockText(s.Body) + " else " + blockText(s.Else)
		}
		return "if " + e[0] + " " + blockText(s.Body)
	case 5:
		return "for " + s.Name + " to " + e[0] + " " + blockText(s.Body)
	}
	return "ret " + e[0] + ";"
}

func exprText(x api.Expr) string {
	var args []string
	for i, arg := range x.Args {
		s := exprText(arg)
		if mustBracket(x, i) {
			s = "(" + s + ")"
		}
		args = append(args, s)
	}
	return bareText(x, args)
}

var opMarks = strings.Fields("|| && == != < <= > >= + - * / %")

// bareText is an expr whose Args have these texts.
func bareText(x api.Expr, args []string) string {
	switch x.Kind {
	case 1:
		return strconv.Itoa(x.Num)
	case 2:
		return map[int]string{0: "false", 1: "true"}[x.Num]
	case 3:
		return `"` + strings.NewReplacer(`"`, `\"`, `\`, `\\`).Replace(x.Text) + `"`
	case 6:
		return x.Text
	case 7:
		return x.Text + "(" + strings.Join(args, ", ") + ")"
	case 12:
		return args[0] + "[" + args[1] + "]"
	case 13:
		return "-" + args[0]
	case 14:
		return "!" + args[0]
	}
	return args[0] + " " + opMarks[x.Op-1] + " " + args[1]
}

// pair is an expr's kind and operator, those of the one in which it stands, and where.
type pair struct{ kind, op, nth, innerKind, innerOp int }

var mustCache = map[pair]bool{}

// shape is an expr of this kind, with names for Args.
func shape(kind, op, args int) api.Expr {
	x := api.Expr{Kind: kind, Op: op}
	if kind == 6 || kind == 7 {
		x.Text = "f"
	}
	for i := range args {
		x.Args = append(x.Args, api.Expr{Kind: 6, Text: "x" + strconv.Itoa(i)})
	}
	return x
}

// mustBracket tells whether the nth of an expr's Args would be read as another one without round brackets. Other exprs within and around play no part in it.
func mustBracket(x api.Expr, nth int) bool {
	inner := x.Args[nth]
	if inner.Kind != 15 {
		inner.Op = 0
	}
	if x.Kind != 15 {
		x.Op = 0
	}
	if x.Kind == 7 {
		nth = 0
	}
	key := pair{x.Kind, x.Op, nth, inner.Kind, inner.Op}
	must, known := mustCache[key]
	if !known {
		outer := shape(x.Kind, x.Op, max(1, rightArgs(x.Kind)))
		outer.Args[nth] = shape(inner.Kind, inner.Op, max(0, rightArgs(inner.Kind)))
		var args []string
		for _, arg := range outer.Args {
			var leaves []string
			for _, leaf := range arg.Args {
				leaves = append(leaves, leaf.Text)
			}
			args = append(args, bareText(arg, leaves))
		}
		p, _, e := parse.Parse("version 1;fn f():int{ret " + bareText(outer, args) + ";}")
		must = e != api.OK || !same(p, returning(outer))
		mustCache[key] = must
	}
	return must
}

func newRand(seed uint64) *rand.Rand       { return rand.New(rand.NewPCG(8, seed)) }
func pick[T any](r *rand.Rand, list []T) T { return list[r.IntN(len(list))] }

// maker makes programs that can stand in a text, by chance; with something in the fields that aren't looked at, if it is asked for.
type maker struct {
	r    *rand.Rand
	left int // about how many exprs and statements may still come
	junk bool
}

var someNames = strings.Fields("a b c x y n f g len has i_2 _ tos returns versions intt abcdefghijklmn_0")
var someTexts = []string{"", "a b", ";", "ret", `"\`, `\\""`, "# no note", "1", "}", " ~ ", strings.Repeat("z", 256), strings.Repeat(`"`, 256)}
var someNumbers = []int{0, 1, 2, 7, 10, 77, 4096, 1<<63 - 1}

func (m *maker) name() string { return pick(m.r, someNames) }

func (m *maker) exprs(n, depth int) []api.Expr {
	var out []api.Expr
	for range n {
		out = append(out, m.expr(depth))
	}
	return out
}

func (m *maker) expr(depth int) api.Expr {
	m.left--
	kinds := []int{1, 2, 3, 6, 7, 7, 12, 12, 13, 14, 15, 15, 15, 15, 15, 15}
	if depth <= 0 || m.left < 0 {
		kinds = []int{1, 2, 3, 6, 6, 6}
	}
	x := api.Expr{Kind: pick(m.r, kinds)}
	switch x.Kind {
	case 1:
		x.Num = pick(m.r, someNumbers)
	case 2:
		x.Num = m.r.IntN(2)
	case 3:
		x.Text = pick(m.r, someTexts)
	case 6:
		x.Text = m.name()
	case 7:
		x.Text = m.name()
		x.Args = m.exprs(m.r.IntN(4), depth-1)
	case 15:
		x.Op = 1 + m.r.IntN(13)
	}
	if x.Kind >= 12 {
		x.Args = m.exprs(rightArgs(x.Kind), depth-1)
	}
	if m.junk {
		m.junkExpr(&x)
	}
	return x
}

// junkExpr fills what isn't looked at.
func (m *maker) junkExpr(x *api.Expr) {
	x.At, x.Slot, x.Type = m.r.IntN(9)-4, m.r.IntN(9)-4, "?"
	if x.Kind > 2 {
		x.Num = m.r.IntN(9) - 4
	}
	if x.Kind != 15 {
		x.Op = m.r.IntN(30) - 8
	}
	if x.Kind != 3 && x.Kind != 6 && x.Kind != 7 {
		x.Text = "if\n"
	}
}

func (m *maker) stmts(depth int) []api.Stmt {
	var out []api.Stmt
	for m.left > 0 && m.r.IntN(4) > 0 {
		out = append(out, m.stmt(depth))
	}
	return out
}

func (m *maker) stmt(depth int) api.Stmt {
	m.left--
	kinds := []int{1, 2, 2, 3, 4, 4, 4, 5, 5, 6}
	if depth <= 0 {
		kinds = []int{1, 2, 3, 6}
	}
	s := api.Stmt{Kind: pick(m.r, kinds)}
	s.E = m.exprs(1, depth-1)
	if s.Kind == 2 && m.r.IntN(2) == 0 {
		s.E = m.exprs(2, depth-1)
	}
	if s.Kind != 4 && s.Kind != 6 {
		s.Name = m.name()
	}
	if s.Kind == 4 || s.Kind == 5 {
		s.Body = m.stmts(depth - 1)
	}
	if s.Kind == 4 && m.r.IntN(2) == 0 {
		s.Else = m.stmts(depth - 1)
	}
	if m.junk {
		m.junkStmt(&s)
	}
	return s
}

func (m *maker) junkStmt(s *api.Stmt) {
	s.At, s.Slot, s.Num, s.State = m.r.IntN(9)-4, m.r.IntN(9)-4, m.r.IntN(9)-4, true
	if s.Kind == 4 || s.Kind == 6 {
		s.Name = "1"
	}
	if s.Kind != 4 {
		s.Else = []api.Stmt{{Kind: 99}}
	}
	if s.Kind != 4 && s.Kind != 5 {
		s.Body = []api.Stmt{{Kind: -1}}
	}
}

func (m *maker) slots(most int) []api.Slot {
	var out []api.Slot
	for range m.r.IntN(most + 1) {
		s := api.Slot{Name: m.name(), Type: pick(m.r, plainTypes)}
		if m.junk {
			s.At = m.r.IntN(9) - 4
		}
		out = append(out, s)
	}
	return out
}

func (m *maker) prog() api.Prog {
	m.left = m.r.IntN(150)
	out := api.Prog{Version: pick(m.r, someNumbers), States: m.slots(3)}
	for range m.r.IntN(4) {
		f := api.Fn{Name: m.name(), On: m.r.IntN(2) == 0, Params: m.slots(3), Result: pick(m.r, plainTypes)}
		f.Body = m.stmts(pick(m.r, []int{2, 4, 8, 12, 22}))
		if m.junk {
			f.At, f.Locals = -3, []string{"?"}
		}
		out.Fns = append(out.Fns, f)
	}
	return out
}

// looser answers a program's tokens, with more round brackets than there must be.
type looser struct {
	r     *rand.Rand
	spare []int // how many more, by chance
	out   []string
}

func (l *looser) words(s string) { l.out = append(l.out, strings.Fields(s)...) }

func (l *looser) typeWords(s string) {
	l.words(strings.NewReplacer("[", "[ ", "]", " ]", "{", "{ ", "}", " }", ":", " : ").Replace(s))
}

func (l *looser) slot(s api.Slot) {
	l.words(s.Name + " :")
	l.typeWords(s.Type)
}

// prog lays states and functions in any order, but each kind in its own.
func (l *looser) prog(p api.Prog) {
	l.words("version " + strconv.Itoa(p.Version) + " ;")
	for len(p.States)+len(p.Fns) > 0 {
		if n := l.r.IntN(len(p.States) + len(p.Fns)); n < len(p.States) {
			l.words("state")
			l.slot(p.States[0])
			l.words(";")
			p.States = p.States[1:]
		} else {
			l.function(p.Fns[0])
			p.Fns = p.Fns[1:]
		}
	}
}

func (l *looser) function(f api.Fn) {
	l.words(map[bool]string{false: "fn ", true: "on "}[f.On] + f.Name + " (")
	for i, s := range f.Params {
		if i > 0 {
			l.words(",")
		}
		l.slot(s)
	}
	l.words(") :")
	l.typeWords(f.Result)
	l.block(f.Body)
}

func (l *looser) block(stmts []api.Stmt) {
	l.words("{")
	for _, s := range stmts {
		l.words(strings.Fields("let set del if for ret")[s.Kind-1] + " " + s.Name)
		if s.Kind == 3 || len(s.E) == 2 {
			l.words("[")
			l.expr(s.E[0], false)
			l.words("]")
		}
		l.words([]string{"=", "=", "", "", "to", ""}[s.Kind-1])
		if s.Kind != 3 {
			l.expr(s.E[len(s.E)-1], false)
		}
		if s.Kind != 4 && s.Kind != 5 {
			l.words(";")
			continue
		}
		l.block(s.Body)
		if len(s.Else) > 0 || s.Kind == 4 && l.r.IntN(3) == 0 {
			l.words("else")
			l.block(s.Else)
		}
	}
	l.words("}")
}

func (l *looser) expr(x api.Expr, must bool) {
	n := pick(l.r, l.spare)
	if must {
		n = max(n, 1)
	}
	l.out = append(l.out, slices.Repeat([]string{"("}, n)...)
	defer func() { l.out = append(l.out, slices.Repeat([]string{")"}, n)...) }()
	arg := func(i int) { l.expr(x.Args[i], mustBracket(x, i)) }
	switch x.Kind {
	case 7:
		l.words(x.Text + " (")
		for i := range x.Args {
			if i > 0 {
				l.words(",")
			}
			arg(i)
		}
		l.words(")")
	case 12:
		arg(0)
		l.words("[")
		arg(1)
		l.words("]")
	case 13, 14:
		l.words(map[int]string{13: "-", 14: "!"}[x.Kind])
		arg(0)
	case 15:
		arg(0)
		l.words(opMarks[x.Op-1])
		arg(1)
	default:
		l.out = append(l.out, bareText(x, nil))
	}
}

// looseText answers a text of a program that can stand in one, with gaps of chance between its tokens.
func looseText(r *rand.Rand, p api.Prog) string {
	l := looser{r: r, spare: pick(r, [][]int{{0}, {0, 0, 0, 0, 0, 1, 2}, {0, 1}, {0, 1, 2, 3, 5}})}
	l.prog(p)
	var b strings.Builder
	for i, w := range l.out {
		gap := pick(r, []string{"", "", "", "", " ", " ", "\n", "\t ", "# a note\n", " ## ; } \"\n\n"})
		if i > 0 && gap == "" && merges(l.out[i-1], w) {
			gap = " "
		}
		b.WriteString(gap + w)
	}
	return b.String() + pick(r, []string{"", "", " ", "\n", "# end"})
}

// merges tells whether one token right behind another could be taken with it.
func merges(a, b string) bool {
	part := func(c byte) bool { return c == '_' || c >= 'a' && c <= 'z' || c >= '0' && c <= '9' }
	return part(a[len(a)-1]) && part(b[0]) || b[0] == '='
}
