package types

import (
	"cmp"
	"fmt"
	"math/rand/v2"
	"reflect"
	"slices"
	"strings"
	"testing"
	"unsafe"

	"quern/api"
	"quern/parse"
	"quern/show"
)

// P10.1: by chance, against the plain checker.

// wantAlike asks that Check answers what the plain checker does, and answers that.
func wantAlike(t *testing.T, p api.Prog) (api.Prog, api.Errno) {
	t.Helper()
	out, at, e := Check(p)
	want, place, err := plainCheck(p)
	if !same(out, want) || at != place || e != err {
		t.Fatalf("%s: %d, %d; not %d, %d; %+v; not %+v", told(p), at, e, place, err, out, want)
	}
	return out, e
}

func TestRandomPrograms(t *testing.T) {
	m := maker{r: newRand(1)}
	for range 3000 {
		p := m.prog()
		if m.r.IntN(2) == 0 {
			junk(m.r, &p)
		}
		if out, e := wantAlike(t, p); e != api.OK {
			t.Fatalf("%s: %d", told(p), e)
		} else {
			wantClosed(t, out)
			wantBare(t, out)
		}
	}
}

var spoilNames = slices.Concat(localNames, builtins, strings.Fields("f0 f1 f2 f3 s0 s1 s2 s3 s4 if Z"))

// spoilOne puts something into one place of a program, which may be wrong there or not.
func spoilOne(r *rand.Rand, p *api.Prog) {
	var ways []func()
	note := func(f func()) { ways = append(ways, f) }
	name := func() string { return pick(r, spoilNames) }
	var exprs []api.Expr
	others := keep(*p)
	visitor{
		slot: func(*api.Slot) {},
		fn:   func(*api.Fn) {},
		stmt: func(*api.Stmt) {},
		expr: func(x *api.Expr) { exprs = append(exprs, *x) },
	}.prog(&others)
	visitor{
		slots: func(l *[]api.Slot) {
			note(func() { *l = append(*l, api.Slot{Name: name(), Type: pick(r, plainTypes)}) })
			note(func() {
				for i := range r.IntN(40) {
					*l = append(*l, api.Slot{Name: fmt.Sprint("more", i), Type: "int"})
				}
			})
		},
		slot: func(s *api.Slot) {
			note(func() { s.Name = name() })
			note(func() { s.Type = pick(r, append(plainTypes, someTypes...)) })
		},
		fn: func(f *api.Fn) {
			note(func() { f.Name = name() })
			note(func() { f.Result = pick(r, append(plainTypes, someTypes...)) })
			note(func() { f.On = !f.On })
			note(func() { *f, p.Fns[0] = p.Fns[0], *f })
		},
		block: func(l *[]api.Stmt) {
			note(func() { r.Shuffle(len(*l), func(i, j int) { (*l)[i], (*l)[j] = (*l)[j], (*l)[i] }) })
			note(func() { *l = slices.Concat(*l, *l) })
			note(func() {
				for i := range r.IntN(40) {
					*l = append(*l, api.Stmt{Kind: 1 + 4*r.IntN(2), Name: fmt.Sprint("more", i), E: []api.Expr{{Kind: 1}}})
				}
			})
		},
		stmt: func(s *api.Stmt) {
			note(func() { s.Name = name() })
			note(func() { s.Name = name() })
			note(func() { s.Kind = 1 + r.IntN(6) })
			note(func() { s.Kind, s.Name = 2+r.IntN(2), pick(r, strings.Fields("f0 f1 f2 i j a b c d")) })
			note(func() { s.E = slices.Concat(s.E, s.E)[:1+r.IntN(2)] })
			note(func() { s.Body, s.Else = s.Else, s.Body })
		},
		expr: func(x *api.Expr) {
			note(func() { *x = pick(r, exprs) })
			note(func() { x.Text = name() })
			note(func() { x.Op = 1 + r.IntN(13) })
			note(func() { x.Args = slices.Concat(x.Args, x.Args)[:r.IntN(2*len(x.Args)+1)] })
			note(func() { r.Shuffle(len(x.Args), func(i, j int) { x.Args[i], x.Args[j] = x.Args[j], x.Args[i] }) })
			note(func() { *x = api.Expr{Kind: 1 + r.IntN(3)} })
		},
	}.prog(p)
	note(func() { p.Version = r.IntN(3) - 1 })
	note(func() { p.Fns = append(p.Fns, api.Fn{Name: name(), Result: "int"}) })
	note(func() {
		for i := range 40 {
			p.Fns = append(p.Fns, api.Fn{Name: fmt.Sprint("more", i), Result: "int"})
		}
	})
	pick(r, ways)()
	clone := keep(*p) // as parts may have been doubled, and each is to have a place of its own
	number(r, &clone)
	*p = clone
}

func TestRandomFaults(t *testing.T) {
	m := maker{r: newRand(2)}
	count := map[api.Errno]int{}
	for range 12000 {
		p := m.prog()
		for range 1 + m.r.IntN(3) {
			spoilOne(m.r, &p)
		}
		out, e := wantAlike(t, p)
		if count[e]++; e == api.OK {
			wantClosed(t, out)
			wantBare(t, out)
		}
	}
	for e, least := range map[api.Errno]int{
		api.OK: 2000, api.ErrForm: 500, api.ErrVersion: 50, api.ErrTwice: 500, api.ErrMany: 200, api.ErrName: 500, api.ErrPlace: 100, api.ErrType: 1000,
	} {
		if count[e] < least {
			t.Errorf("too few of %d: %v", e, count)
		}
	}
}

// Statements and exprs that are put together without regard to types.
func TestRandomSoup(t *testing.T) {
	r := newRand(3)
	const front = "version 1; state n: int; state t: text; state l: [int]; state m: {text:int}; fn g(a: int): int {} fn h(a: text, b: [int]): bool {} on k(): int {} fn f(p: int, q: [[text]]): int { "
	var expr func(depth int) string
	expr = func(depth int) string {
		names := strings.Fields(`n t l m p q a i 1 true "x" n t l m p 0`)
		if depth == 0 {
			return pick(r, names)
		}
		x, y := expr(r.IntN(depth)), expr(r.IntN(depth))
		switch r.IntN(12) {
		case 0:
			return "-" + x
		case 1:
			return "!" + x
		case 2, 3:
			return pick(r, strings.Fields("l m q l m q n t")) + "[" + x + "]"
		case 4:
			return pick(r, strings.Fields("len str g len str k z has")) + "(" + x + ")"
		case 5, 6:
			return pick(r, strings.Fields("has push h has push h g f")) + "(" + pick(r, strings.Fields("m l t q t")) + ", " + x + ")"
		}
		return "(" + x + " " + pick(r, opMarks) + " " + y + ")"
	}
	var stmts func(depth int) string
	stmts = func(depth int) string {
		var out string
		for range 1 + r.IntN(3) {
			x, name := expr(r.IntN(3)), pick(r, strings.Fields("n t l m p q a b i j g"))
			switch r.IntN(5 + 2*min(depth, 1)) {
			case 0:
				out += "let " + pick(r, strings.Fields("a b c d i j n")) + " = " + x + "; "
			case 1:
				out += "set " + name + " = " + x + "; "
			case 2:
				out += "set " + name + "[" + expr(r.IntN(2)) + "] = " + x + "; "
			case 3:
				out += "del " + name + "[" + x + "]; "
			case 4:
				out += "ret " + x + "; "
			case 5:
				out += "if " + x + " { " + stmts(depth-1) + "} else { " + stmts(depth-1) + "} "
			case 6:
				out += "for " + pick(r, strings.Fields("i j a")) + " to " + x + " { " + stmts(depth-1) + "} "
			}
		}
		return out
	}
	count := map[api.Errno]int{}
	for range 30000 {
		p := parsed(t, front+stmts(r.IntN(3))+"}")
		_, e := wantAlike(t, p)
		count[e]++
	}
	if count[api.OK] < 500 || count[api.ErrName] < 1000 || count[api.ErrType] < 1000 || count[api.ErrPlace] < 500 || count[api.ErrTwice] < 100 {
		t.Errorf("the programs don't try all: %v", count)
	}
}

// A program that was shown and read again has the same answer.
func TestShownAnew(t *testing.T) {
	m := maker{r: newRand(4)}
	for range 500 {
		p := m.prog()
		s, e := show.Show(p)
		if e != api.OK {
			continue
		}
		q, _, e := parse.Parse(s)
		if e != api.OK {
			continue // shown, it may be too deep, or have too many tokens
		}
		first, _, _ := Check(p)
		second, at, e := Check(q)
		if e != api.OK || at != 0 || !same(first, second) {
			t.Fatalf("%s: %d, %d", short(s), at, e)
		}
	}
}

// P10.2: what is answered is closed.

// wantClosed asks of an answer alone, whatever it came from.
func wantClosed(t *testing.T, p api.Prog) {
	t.Helper()
	for i, f := range p.Fns {
		c := closed{p, i}
		if len(f.Locals) < len(f.Params) || len(f.Locals) > 32 {
			t.Fatalf("%+v: locals", f)
		}
		for j, s := range f.Params {
			if f.Locals[j] != s.Type {
				t.Fatalf("%+v: a parameter is of another type than its local", f)
			}
		}
		next := len(f.Params)
		if !c.stmts(f.Body, &next) || next != len(f.Locals) {
			t.Fatalf("%+v: not closed", f)
		}
	}
}

type closed struct {
	p      api.Prog
	number int
}

// stmts counts the locals that lets and fors bring, which must be numbered as they stand.
func (c closed) stmts(l []api.Stmt, next *int) bool {
	return every(l, func(s api.Stmt) bool { return c.stmt(s, next) })
}

func (c closed) stmt(s api.Stmt, next *int) bool {
	locals := c.p.Fns[c.number].Locals
	if !every(s.E, c.expr) || len(s.E) == 0 {
		return false
	}
	of := ""
	switch s.Kind {
	case api.SLet, api.SFor:
		if s.Slot != *next || *next >= len(locals) {
			return false
		}
		*next++
		of = locals[s.Slot]
	case api.SSet, api.SDel:
		if s.State && s.Slot < len(c.p.States) {
			of = c.p.States[s.Slot].Type
		} else if !s.State && s.Slot < *next {
			of = locals[s.Slot]
		}
	}
	last := s.E[len(s.E)-1].Type
	parts := shapes[of]
	fits := map[int]bool{
		api.SLet: last == of, api.SFor: of == "int" && last == "int", api.SIf: last == "bool", api.SRet: last == c.p.Fns[c.number].Result,
		api.SSet: len(s.E) == 1 && last == of && of != "" || len(s.E) == 2 && parts.kind != "" && s.E[0].Type == parts.key && last == parts.inner,
		api.SDel: parts.kind == "{" && last == parts.key,
	}
	return fits[s.Kind] && c.stmts(s.Body, next) && c.stmts(s.Else, next)
}

// expr tells whether an expr's type is that of what it names or is made of.
func (c closed) expr(x api.Expr) bool {
	if !every(x.Args, c.expr) {
		return false
	}
	var args []string
	for _, arg := range x.Args {
		args = append(args, arg.Type)
	}
	f := c.p.Fns[c.number]
	first := shapes[strings.Join(args[:min(1, len(args))], "")]
	switch x.Kind {
	case api.EInt, api.EBool, api.EText:
		return x.Type == []string{"int", "bool", "text"}[x.Kind-1]
	case api.ELocal:
		return x.Slot >= 0 && x.Slot < len(f.Locals) && x.Type == f.Locals[x.Slot]
	case api.EState:
		return x.Slot >= 0 && x.Slot < len(c.p.States) && x.Type == c.p.States[x.Slot].Type
	case api.ECall:
		if x.Slot < 0 || x.Slot >= c.number || c.p.Fns[x.Slot].On {
			return false
		}
		var want []string
		for _, s := range c.p.Fns[x.Slot].Params {
			want = append(want, s.Type)
		}
		return slices.Equal(args, want) && x.Type == c.p.Fns[x.Slot].Result
	case api.ELen:
		return len(args) == 1 && (args[0] == "text" || first.kind != "") && x.Type == "int"
	case api.EHas:
		return len(args) == 2 && first.kind == "{" && args[1] == first.key && x.Type == "bool"
	case api.EPush:
		return len(args) == 2 && args[0] == "["+args[1]+"]" && x.Type == args[0]
	case api.EStr:
		return slices.Equal(args, []string{"int"}) && x.Type == "text"
	case api.EAt:
		return len(args) == 2 && first.kind != "" && args[1] == first.key && x.Type == first.inner
	case api.ENeg:
		return slices.Equal(args, []string{"int"}) && x.Type == "int"
	case api.ENot:
		return slices.Equal(args, []string{"bool"}) && x.Type == "bool"
	case api.EBin:
		return len(args) == 2 && x.Op >= 1 && x.Op <= 13 && x.Type != "" && x.Type == plainOp(opMarks[x.Op-1], args[0], args[1])
	}
	return false
}

// wantBare asks that an answer has nothing in the fields of which nothing is said.
func wantBare(t *testing.T, p api.Prog) {
	t.Helper()
	fine := true
	visitor{
		slot: func(s *api.Slot) { fine = fine && s.At == 0 },
		fn:   func(f *api.Fn) { fine = fine && f.At == 0 },
		stmt: func(s *api.Stmt) {
			fine = fine && s.At == 0 && s.Name == "" && s.Num == 0 && s.Kind >= 1 && s.Kind <= 6
			if s.Kind == api.SIf || s.Kind == api.SRet {
				fine = fine && s.Slot == 0
			}
			if s.Kind != api.SSet && s.Kind != api.SDel {
				fine = fine && !s.State
			}
			if s.Kind != api.SIf {
				fine = fine && len(s.Else) == 0
			}
			if s.Kind != api.SIf && s.Kind != api.SFor {
				fine = fine && len(s.Body) == 0
			}
		},
		expr: func(x *api.Expr) {
			fine = fine && x.At == 0 && x.Type != ""
			if x.Kind > api.EBool {
				fine = fine && x.Num == 0
			}
			if x.Kind != api.EText {
				fine = fine && x.Text == ""
			}
			if x.Kind != api.ELocal && x.Kind != api.EState && x.Kind != api.ECall {
				fine = fine && x.Slot == 0
			}
			if x.Kind != api.EBin {
				fine = fine && x.Op == 0
			}
			if x.Kind <= api.EState {
				fine = fine && len(x.Args) == 0
			}
		},
	}.prog(&p)
	if !fine {
		t.Fatalf("%+v: something that nothing is said of", p)
	}
}

// P10.3: locals may be named otherwise.

// renamer names the locals of a program otherwise, by its answer, in which each of them has its number.
type renamer struct {
	name  func(slot int, sight []string) string // of a new local, by those in sight
	names map[int]string                        // of the function's locals so far
	sight []string
}

func (n *renamer) fresh(slot int) string {
	n.names[slot] = n.name(slot, n.sight)
	n.sight = append(slices.Clone(n.sight), n.names[slot])
	return n.names[slot]
}

func (n *renamer) prog(p *api.Prog, answer api.Prog) {
	for i := range p.Fns {
		n.names, n.sight = map[int]string{}, nil
		for j := range p.Fns[i].Params {
			p.Fns[i].Params[j].Name = n.fresh(j)
		}
		n.stmts(p.Fns[i].Body, answer.Fns[i].Body)
	}
}

func (n *renamer) stmts(l, answer []api.Stmt) {
	outside := n.sight
	for i := range l {
		s, a := &l[i], answer[i]
		n.exprs(s.E, a.E)
		switch s.Kind {
		case api.SLet:
			s.Name = n.fresh(a.Slot)
		case api.SSet, api.SDel:
			if !a.State {
				s.Name = n.names[a.Slot]
			}
		case api.SIf:
			n.stmts(s.Body, a.Body)
			n.stmts(s.Else, a.Else)
		case api.SFor:
			here := n.sight
			s.Name = n.fresh(a.Slot)
			n.stmts(s.Body, a.Body)
			n.sight = here
		}
	}
	n.sight = outside
}

func (n *renamer) exprs(l, answer []api.Expr) {
	for i := range l {
		if answer[i].Kind == api.ELocal {
			l[i].Text = n.names[answer[i].Slot]
		}
		n.exprs(l[i].Args, answer[i].Args)
	}
}

func nameless(p api.Prog) api.Prog {
	p = plainly(p)
	for i := range p.Fns {
		for j := range p.Fns[i].Params {
			p.Fns[i].Params[j].Name = ""
		}
	}
	return p
}

func TestOtherNames(t *testing.T) {
	m := maker{r: newRand(5)}
	ways := []func(slot int, sight []string) string{
		func(slot int, sight []string) string { return fmt.Sprint("v", slot) },
		func(slot int, sight []string) string { return fmt.Sprint("w", len(sight)) }, // the same ones again and again
		func(slot int, sight []string) string { return fmt.Sprintf("abcdefghijklmn%02d", slot) },
		func(slot int, sight []string) string {
			for {
				s := pick(m.r, []string{"lens", "le", "hass", "pus", "strr", "st", "rets", "ints", "tex", "_", "__", "f00", "s", "f", "a1", "a2"}) + times("_", m.r.IntN(4))
				if !slices.Contains(sight, s) {
					return s
				}
			}
		},
	}
	locals := 0
	for range 1500 {
		p := m.prog()
		first, _, e := Check(p)
		if e != api.OK {
			t.Fatal(e)
		}
		for _, way := range ways {
			q := keep(p)
			n := renamer{name: way}
			n.prog(&q, first)
			second, at, e := Check(q)
			if e != api.OK || at != 0 || !same(nameless(first), nameless(second)) {
				t.Fatalf("%s and %s: %d, %d", told(p), told(q), at, e)
			}
			for i := range q.Fns {
				if !reflect.DeepEqual(bareSlots(q.Fns[i].Params), plainly(second).Fns[i].Params) {
					t.Fatalf("%s: the parameters are named otherwise", told(q))
				}
				locals += len(first.Fns[i].Locals)
			}
		}
	}
	if locals < 10000 {
		t.Errorf("too few locals: %d", locals)
	}
}

// P10.4: nothing is changed, nothing is kept, all is new.

// span is the memory that something has.
type span struct{ from, to uintptr }

func listSpan[T any](l []T) span {
	var one T
	from := uintptr(unsafe.Pointer(unsafe.SliceData(l)))
	return span{from, from + uintptr(cap(l))*unsafe.Sizeof(one)}
}

// textSpan leaves out texts of one byte: the language's own memory has each of them once, and nobody can write there.
func textSpan(s string) span {
	if len(s) < 2 {
		return span{}
	}
	from := uintptr(unsafe.Pointer(unsafe.StringData(s)))
	return span{from, from + uintptr(len(s))}
}

// memory answers what a program's lists have, and what its texts have.
func memory(p api.Prog) (lists, texts []span) {
	slots := func(l []api.Slot) {
		lists = append(lists, listSpan(l))
		for _, s := range l {
			texts = append(texts, textSpan(s.Name), textSpan(s.Type))
		}
	}
	var exprs func(l []api.Expr)
	exprs = func(l []api.Expr) {
		lists = append(lists, listSpan(l))
		for _, x := range l {
			texts = append(texts, textSpan(x.Text), textSpan(x.Type))
			exprs(x.Args)
		}
	}
	var stmts func(l []api.Stmt)
	stmts = func(l []api.Stmt) {
		lists = append(lists, listSpan(l))
		for _, s := range l {
			texts = append(texts, textSpan(s.Name))
			exprs(s.E)
			stmts(s.Body)
			stmts(s.Else)
		}
	}
	slots(p.States)
	lists = append(lists, listSpan(p.Fns))
	for _, f := range p.Fns {
		slots(f.Params)
		lists = append(lists, listSpan(f.Locals))
		texts = append(texts, textSpan(f.Name), textSpan(f.Result))
		for _, s := range f.Locals {
			texts = append(texts, textSpan(s))
		}
		stmts(f.Body)
	}
	return lists, texts
}

// share tells whether two of these have a byte in common.
func share(l []span) bool {
	l = slices.DeleteFunc(slices.Clone(l), func(s span) bool { return s.from == s.to })
	slices.SortFunc(l, func(a, b span) int { return cmp.Compare(a.from, b.from) })
	for i := 1; i < len(l); i++ {
		if l[i-1].to > l[i].from {
			return true
		}
	}
	return false
}

// meet tells whether one of these and one of those have a byte in common.
func meet(a, b []span) bool {
	return slices.ContainsFunc(a, func(x span) bool {
		return slices.ContainsFunc(b, func(y span) bool { return x.from < y.to && y.from < x.to })
	})
}

// owner makes programs whose texts lie in bytes that can be written over, and whose lists have spare room.
type owner struct {
	bytes [][]byte
	wipes []func()
}

func (o *owner) text(s string) string {
	if s == "" {
		return ""
	}
	b := []byte(s)
	o.bytes = append(o.bytes, b)
	return unsafe.String(&b[0], len(b))
}

// roomy answers a list with spare room, in which something stands.
func roomy[T any](o *owner, l []T, spare T) []T {
	l = append(slices.Clone(l), spare, spare)
	o.wipes = append(o.wipes, func() { clear(l[:cap(l)]) })
	return l[: len(l)-2 : len(l)]
}

func (o *owner) exprs(l []api.Expr) []api.Expr {
	l = roomy(o, l, api.Expr{Kind: 99})
	for i := range l {
		l[i].Text, l[i].Type, l[i].Args = o.text(l[i].Text), o.text(l[i].Type), o.exprs(l[i].Args)
	}
	return l
}

func (o *owner) stmts(l []api.Stmt) []api.Stmt {
	l = roomy(o, l, api.Stmt{Kind: 77})
	for i := range l {
		s := &l[i]
		s.Name, s.E, s.Body, s.Else = o.text(s.Name), o.exprs(s.E), o.stmts(s.Body), o.stmts(s.Else)
	}
	return l
}

func (o *owner) slots(l []api.Slot) []api.Slot {
	l = roomy(o, l, api.Slot{Name: "spare"})
	for i := range l {
		l[i].Name, l[i].Type = o.text(l[i].Name), o.text(l[i].Type)
	}
	return l
}

func (o *owner) prog(p api.Prog) api.Prog {
	p.States = o.slots(p.States)
	p.Fns = roomy(o, p.Fns, api.Fn{Name: "spare"})
	for i := range p.Fns {
		f := &p.Fns[i]
		f.Name, f.Result, f.Params, f.Body = o.text(f.Name), o.text(f.Result), o.slots(f.Params), o.stmts(f.Body)
		f.Locals = roomy(o, f.Locals, "spare")
		for j := range f.Locals {
			f.Locals[j] = o.text(f.Locals[j])
		}
	}
	return p
}

// spoil writes over all that the programs hold.
func (o *owner) spoil() {
	for _, b := range o.bytes {
		for i := range b {
			b[i] = '?'
		}
	}
	for _, wipe := range o.wipes {
		wipe()
	}
}

// keep answers a copy of a program that shares nothing with it, texts neither.
func keep(p api.Prog) api.Prog {
	var o owner
	return o.prog(p)
}

// all has each list of a program go up to its spare room's end.
func all(p api.Prog) api.Prog {
	p.States, p.Fns = p.States[:cap(p.States)], slices.Clone(p.Fns[:cap(p.Fns)])
	for i := range p.Fns {
		f := &p.Fns[i]
		f.Params, f.Locals, f.Body = f.Params[:cap(f.Params)], f.Locals[:cap(f.Locals)], allStmts(f.Body)
	}
	return p
}

func allStmts(l []api.Stmt) []api.Stmt {
	l = slices.Clone(l[:cap(l)])
	for i := range l {
		l[i].E, l[i].Body, l[i].Else = allExprs(l[i].E), allStmts(l[i].Body), allStmts(l[i].Else)
	}
	return l
}

func allExprs(l []api.Expr) []api.Expr {
	l = slices.Clone(l[:cap(l)])
	for i := range l {
		l[i].Args = allExprs(l[i].Args)
	}
	return l
}

func TestNothingIsChangedOrKept(t *testing.T) {
	m := maker{r: newRand(6)}
	for i := range 1000 {
		made := m.prog()
		if i%3 == 0 {
			spoilOne(m.r, &made)
		}
		if i%2 == 0 {
			junk(m.r, &made)
		}
		var o owner
		p := o.prog(made)
		before := keep(all(p))
		first, at, e := Check(p)
		second, _, _ := Check(p)
		if !same(keep(all(p)), before) {
			t.Fatalf("%s: changed", told(made))
		}
		wantApart(t, p, first, second)
		want, place, err := plainCheck(made)
		o.spoil()
		if !same(first, want) || at != place || e != err {
			t.Fatalf("%s: kept", told(made))
		}
	}
}

// wantApart asks that no two lists of two answers share memory, nor one of them with the program, nor a text with a text of the program.
func wantApart(t *testing.T, p, first, second api.Prog) {
	t.Helper()
	lists, texts := memory(p)
	one, ones := memory(first)
	two, twos := memory(second)
	if share(slices.Concat(one, two)) {
		t.Fatalf("%s: lists of the answers share memory", told(p))
	}
	if meet(lists, slices.Concat(one, two)) {
		t.Fatalf("%s: a list of the answer is one of the program's", told(p))
	}
	if meet(texts, slices.Concat(ones, twos)) {
		t.Fatalf("%s: a text of the answer is one of the program's", told(p))
	}
}

// A program whose parts share memory has an answer whose parts share none.
func TestSharedParts(t *testing.T) {
	args := []api.Expr{{Kind: api.EInt, Num: 1}, {Kind: api.EName, Text: "a"}}
	sum := []api.Expr{{Kind: api.EBin, Op: api.OpAdd, Args: args}}
	body := []api.Stmt{{Kind: api.SRet, E: sum}, {Kind: api.SSet, Name: "a", E: sum}}
	twice := []api.Stmt{{Kind: api.SIf, E: []api.Expr{{Kind: api.EBool}}, Body: body, Else: body}, body[0], body[1]}
	params := []api.Slot{{Name: "a", Type: "int"}}
	p := api.Prog{Version: 1, Fns: []api.Fn{{Name: "f", Params: params, Result: "int", Body: twice}, {Name: "g", Params: params, Result: "int", Body: twice}}}
	out, e := wantAlike(t, p)
	if e != api.OK {
		t.Fatal(e)
	}
	if lists, _ := memory(out); share(lists) {
		t.Error("lists of the answer share memory")
	}
}

// What is answered hangs on the program alone.
func TestAgain(t *testing.T) {
	m := maker{r: newRand(7)}
	var programs []api.Prog
	var answers []string
	ask := func(p api.Prog) string {
		out, at, e := Check(p)
		return fmt.Sprintf("%+v %d %d", plainly(out), at, e)
	}
	for i := range 300 {
		p := m.prog()
		if i%2 == 0 {
			spoilOne(m.r, &p)
		}
		programs, answers = append(programs, p), append(answers, ask(p))
	}
	for i := len(programs) - 1; i >= 0; i-- {
		if again := ask(programs[i]); again != answers[i] {
			t.Fatalf("%s: %s; then %s", told(programs[i]), answers[i], again)
		}
	}
}
