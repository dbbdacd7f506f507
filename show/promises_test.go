package show

import (
	"fmt"
	"math/rand/v2"
	"reflect"
	"slices"
	"strings"
	"testing"
	"unsafe"

	"quern/api"
	"quern/lex"
	"quern/parse"
)

// P8.1: by chance.

// wantAlike asks that Show answers what the plain shower does, and answers its error.
func wantAlike(t *testing.T, p api.Prog) api.Errno {
	t.Helper()
	s, e := Show(p)
	want, err := plainShow(p)
	if s != want || e != err {
		t.Fatalf("%s: %s, %d; not %s, %d", short(fmt.Sprintf("%+v", p)), short(s), e, short(want), err)
	}
	return e
}

func TestRandomPrograms(t *testing.T) {
	m := maker{r: newRand(1)}
	for range 4000 {
		m.junk = m.r.IntN(2) == 0
		if e := wantAlike(t, m.prog()); e == api.ErrForm {
			t.Fatal(e)
		}
	}
}

var (
	spoilTexts   = slices.Concat(badNames(), badTypes(), badTexts, anyTexts, someNames, plainTypes)
	spoilNumbers = slices.Concat(badStmtKinds, badExprKinds, badOps, anyInts, []int{1, 2, 3, 4, 5, 6, 7, 12, 13, 14, 15})
)

// spoilOne puts something into one place of a program, which may be wrong there or not.
func spoilOne(r *rand.Rand, p *api.Prog) {
	var ways []func()
	note := func(f func()) { ways = append(ways, f) }
	note(func() { p.Version = pick(r, spoilNumbers) })
	visitor{
		slot: func(s *api.Slot) {
			note(func() { s.Name = pick(r, spoilTexts) })
			note(func() { s.Type = pick(r, spoilTexts) })
		},
		fn: func(f *api.Fn) {
			note(func() { f.Name = pick(r, spoilTexts) })
			note(func() { f.Result = pick(r, spoilTexts) })
		},
		stmt: func(s *api.Stmt) {
			note(func() { s.Kind = pick(r, spoilNumbers) })
			note(func() { s.Name = pick(r, spoilTexts) })
			note(func() { s.E = exprLists(r.IntN(4))[0] })
			note(func() { s.Body, s.Else = s.Else, s.Body })
			note(func() {
				s.Else = []api.Stmt{{Kind: pick(r, spoilNumbers), Name: pick(r, spoilTexts), E: exprLists(1)[0]}}
			})
			note(func() {
				s.Body = []api.Stmt{{Kind: pick(r, spoilNumbers), Name: pick(r, spoilTexts), E: exprLists(1)[0]}}
			})
		},
		expr: func(x *api.Expr) {
			note(func() { x.Kind = pick(r, spoilNumbers) })
			note(func() { x.Num = pick(r, spoilNumbers) })
			note(func() { x.Op = pick(r, spoilNumbers) })
			note(func() { x.Text = pick(r, spoilTexts) })
			note(func() { x.Args = exprLists(r.IntN(4))[0] })
		},
	}.prog(p)
	pick(r, ways)()
}

func TestRandomFaults(t *testing.T) {
	m := maker{r: newRand(2)}
	count := map[api.Errno]int{}
	for range 8000 {
		m.junk = m.r.IntN(2) == 0
		p := m.prog()
		for range 1 + m.r.IntN(2) {
			spoilOne(m.r, &p)
		}
		count[wantAlike(t, p)]++
	}
	if count[api.OK] < 1500 || count[api.ErrForm] < 1500 {
		t.Errorf("the programs don't try both: %v", count)
	}
}

// Exprs that are anything at all: any kind, operator and number of Args.
func TestRandomSoup(t *testing.T) {
	r := newRand(3)
	var soup func(depth int) api.Expr
	soup = func(depth int) api.Expr {
		x := api.Expr{Kind: r.IntN(18) - 1, Op: r.IntN(16) - 1, Num: r.IntN(4) - 1, Text: pick(r, []string{"a", "b", "if", "", "\n"})}
		for range r.IntN(4) * min(depth, 1) {
			x.Args = append(x.Args, soup(depth-1))
		}
		return x
	}
	count := map[api.Errno]int{}
	for range 60000 {
		x := soup(r.IntN(3))
		s := api.Stmt{Kind: r.IntN(9) - 1, Name: "a", E: []api.Expr{x}}
		count[wantAlike(t, doing(s))]++
	}
	if count[api.OK] < 2000 || count[api.ErrForm] < 2000 {
		t.Errorf("the programs don't try both: %v", count)
	}
}

// P8.1: round brackets stand just where an expr would be read as another one without.

// withoutPair answers tokens without the ith one, an opening bracket, and the one that closes it.
func withoutPair(tokens []string, i int) string {
	open := 0
	for j := i; ; j++ {
		switch tokens[j] {
		case "(":
			open++
		case ")":
			open--
		}
		if open == 0 {
			return strings.Join(slices.Concat(tokens[:i], tokens[i+1:j], tokens[j+1:]), " ")
		}
	}
}

func texts(t *testing.T, s string) []string {
	t.Helper()
	tokens, at, e := lex.Lex(s)
	if e != api.OK {
		t.Fatal(short(s), at, e)
	}
	var out []string
	for _, k := range tokens[:len(tokens)-1] {
		if k.Kind == api.TText {
			k.Text = lex.Quote(k.Text)
		}
		out = append(out, k.Text)
	}
	return out
}

func TestNoBracketTooMany(t *testing.T) {
	m := maker{r: newRand(4)}
	asked := 0
	for range 1500 {
		m.left = 25
		p := returning(m.expr(6))
		s, e := Show(p)
		back, _, err := parse.Parse(s)
		if e != api.OK || err != api.OK || !same(back, p) {
			t.Fatalf("%s: %d, %d", short(s), e, err)
		}
		tokens := texts(t, s)
		front := len(texts(t, "version 1;fn f():int{ret"))
		for i, w := range tokens {
			if w != "(" || i < front {
				continue
			}
			asked++
			other := withoutPair(tokens, i)
			if back, _, err := parse.Parse(other); err == api.OK && same(back, p) {
				t.Fatalf("%s is read as the same: %s", short(other), short(s))
			}
		}
	}
	if asked < 3000 {
		t.Errorf("%d brackets", asked)
	}
}

// P8.2, P8.3.

// wantBack asks of a right text that it is shown, read and shown again as promised; and answers whether it is too long when it is shown.
func wantBack(t *testing.T, s string) bool {
	t.Helper()
	p, at, e := parse.Parse(s)
	if e != api.OK {
		t.Fatalf("%s: %d, %d", short(s), at, e)
	}
	text, e := Show(p)
	if e == api.ErrLong {
		if want := plainText(p); len(want) <= 16384 || text != "" {
			t.Fatalf("%s: its text has %d bytes", short(s), len(want))
		}
		return true
	}
	back, at, err := parse.Parse(text)
	if e != api.OK || err != api.OK || !same(back, p) {
		t.Fatalf("%s: %s, %d: %+v, %d, %d; not %+v", short(s), short(text), e, back, at, err, p)
	}
	if again, e := Show(back); again != text || e != api.OK {
		t.Fatalf("%s: %s, %d", short(text), short(again), e)
	}
	before, _, _ := lex.Lex(s)
	after, _, _ := lex.Lex(text)
	if len(after) > len(before) {
		t.Fatalf("%s: %d tokens, shown %d: %s", short(s), len(before), len(after), short(text))
	}
	return false
}

func TestThereAndBack(t *testing.T) {
	for _, s := range []string{
		"version 0;", "version 9223372036854775807;#", "version 1;state a:int;state b:{int:[[text]]};",
		"version 1;fn f():int{ret ((1+2)*3)-(-4);}",
		"version 1;on b():text{} state z:bool; fn c():int{} state a:text; on a():[int]{}",
		"version 1;fn f():int{if a{}else{}}", "version 1;fn f():int{if a{}else{ret 1;}if(b){}else{if(((c))){}else{}}}",
		"version 1;fn f(a:int,a:{text:int}):[bool]{for i to((i)){}let a=((((1))));set a[(1)]=(2);set a=-(-(1));del a[-(a)];ret(f((1),(a+b)));}",
		"version 1;fn f():int{ret (a)[1];ret (a[1])[2];ret (f())[1];ret (-a)[1];ret -(a[1]);ret (\"\\\"\")[0];}",
		"version 1;fn f():int{ret (a<b)<c;ret a<(b<c);ret (a<b)==(c>=d);ret (a||b)&&(c||d);ret (a&&b)||(c&&d);ret !(!a);ret !(a==b);}",
		"version 1;fn f():int{ret a-(b-c);ret (a-b)-c;ret a-(b+c);ret a/(b*c);ret (a*b)+(c*d);ret (a+b)*(c+d);ret (-a)*(-b);}",
	} {
		wantBack(t, s)
	}
	m := maker{r: newRand(5)}
	right, deep, long := 0, 0, 0
	for range 6000 {
		p := m.prog()
		s := looseText(m.r, p)
		back, at, e := parse.Parse(s)
		switch {
		case e == api.ErrLong || e == api.ErrMany:
			continue
		case e == api.ErrDeep:
			deep++
			continue
		case e != api.OK || !same(back, p):
			t.Fatalf("%s: %d, %d", short(s), at, e)
		}
		right++
		if wantBack(t, s) {
			long++
		}
	}
	if right < 4000 || deep < 100 {
		t.Errorf("%d are right, %d too deep, %d too long", right, deep, long)
	}
}

// Texts at the edge of what Parse takes: as deep, as many tokens, as long as can be.
func TestThereAndBackAtTheEdges(t *testing.T) {
	const front = "version 1;fn f():int{"
	for what, s := range map[string]string{
		"brackets": front + "ret " + times("(a+", 22) + "b" + times(")", 22) + ";}",
		"left":     front + "ret " + times("(", 22) + "b" + times("<a)", 22) + ";}",
		"unary":    front + "ret " + times("-!", 11) + "a;}",
		"both":     front + "ret " + times("-(", 11) + "a+b" + times(")", 11) + ";}",
		"ahead":    front + "ret " + times("(-", 11) + "b" + times(")[1]", 11) + ";}",
		"square":   front + "ret " + times("a[", 22) + "b" + times("]", 22) + ";}",
		"calls":    front + "ret " + times("f(", 22) + "b" + times(")", 22) + ";}",
		"ifs":      front + times("if a{", 23) + times("}", 23) + "}",
		"elses":    front + times("if a{}else{", 23) + times("}", 23) + "}",
		"fors":     front + times("for i to a{", 21) + "ret -a;" + times("}", 21) + "}",
		"types":    "version 1;state a:[[[int]]];fn f(a:{int:{text:[bool]}}):{text:[{int:text}]}{}",
		"tokens":   front + times("let a=a;", 815) + "}",
		"sum":      front + "ret a" + times("+a", 2037) + ";}",
	} {
		if wantBack(t, s) {
			t.Errorf("%s: too long", what)
		}
	}
	// These grow beyond the limit when they are shown, and are no ErrForm all the same.
	for what, s := range map[string]string{
		"tabs":   front + times("if a{", 15) + times("let a=a;", 790) + times("}", 15) + "}",
		"blanks": front + "ret " + times("abcdef+", 2037) + "a;}",
	} {
		if !wantBack(t, s) {
			t.Errorf("%s: not too long", what)
		}
	}
}

// P8.4.

// owner makes programs whose texts lie in bytes that can be written over, and whose lists have spare room.
type owner struct {
	bytes [][]byte
}

func (o *owner) text(s string) string {
	if s == "" {
		return ""
	}
	b := []byte(s)
	o.bytes = append(o.bytes, b)
	return unsafe.String(&b[0], len(b))
}

// roomy answers a list with spare room, in which something stands.
func roomy[T any](l []T, spare T) []T {
	return append(slices.Clone(l), spare, spare)[:len(l)]
}

func (o *owner) exprs(l []api.Expr) []api.Expr {
	l = roomy(l, num(-99))
	for i := range l {
		l[i].Text, l[i].Type, l[i].Args = o.text(l[i].Text), o.text(l[i].Type), o.exprs(l[i].Args)
	}
	return l
}

func (o *owner) stmts(l []api.Stmt) []api.Stmt {
	l = roomy(l, api.Stmt{Kind: 77})
	for i := range l {
		s := &l[i]
		s.Name, s.E, s.Body, s.Else = o.text(s.Name), o.exprs(s.E), o.stmts(s.Body), o.stmts(s.Else)
	}
	return l
}

func (o *owner) slots(l []api.Slot) []api.Slot {
	l = roomy(l, api.Slot{Name: "spare"})
	for i := range l {
		l[i].Name, l[i].Type = o.text(l[i].Name), o.text(l[i].Type)
	}
	return l
}

func (o *owner) prog(p api.Prog) api.Prog {
	p.States = o.slots(p.States)
	p.Fns = roomy(p.Fns, api.Fn{Name: "spare"})
	for i := range p.Fns {
		f := &p.Fns[i]
		f.Name, f.Result, f.Params, f.Body = o.text(f.Name), o.text(f.Result), o.slots(f.Params), o.stmts(f.Body)
		f.Locals = roomy(f.Locals, "spare")
	}
	return p
}

// all has each list of a program go up to its spare room's end.
func all(p api.Prog) api.Prog {
	p.States, p.Fns = p.States[:cap(p.States)], slices.Clone(p.Fns[:cap(p.Fns)])
	for i := range p.Fns {
		f := &p.Fns[i]
		f.Params, f.Locals, f.Body = f.Params[:cap(f.Params)], f.Locals[:cap(f.Locals)], allStmts(f.Body)
	}
	return p
}

func allStmts(l []api.Stmt) []api.Stmt {
	l = slices.Clone(l[:cap(l)])
	for i := range l {
		l[i].E, l[i].Body, l[i].Else = allExprs(l[i].E), allStmts(l[i].Body), allStmts(l[i].Else)
	}
	return l
}

func allExprs(l []api.Expr) []api.Expr {
	l = slices.Clone(l[:cap(l)])
	for i := range l {
		l[i].Args = allExprs(l[i].Args)
	}
	return l
}

// keep answers a copy of a program that shares nothing with it, texts neither.
func keep(p api.Prog) api.Prog {
	var o owner
	return o.prog(p)
}

func TestNothingIsChangedOrKept(t *testing.T) {
	m := maker{r: newRand(6)}
	for i := range 600 {
		m.junk = i%2 == 0
		plain := m.prog()
		if i%3 == 0 {
			spoilOne(m.r, &plain)
		}
		var o owner
		p := o.prog(plain)
		before := keep(all(p))
		first, e := Show(p)
		second, _ := Show(p)
		if !reflect.DeepEqual(keep(all(p)), before) {
			t.Fatalf("%s: changed", short(first))
		}
		if first != "" && unsafe.StringData(first) == unsafe.StringData(second) {
			t.Fatalf("%s: two answers share their memory", short(first))
		}
		want, err := plainShow(plain)
		for _, b := range o.bytes {
			clear(b)
		}
		for i := range p.States {
			p.States[i] = api.Slot{}
		}
		clear(p.Fns)
		if first != want || second != want || e != err {
			t.Fatalf("%s, %d; not %s, %d", short(first), e, short(want), err)
		}
	}
}

func TestTypeKeepsNothing(t *testing.T) {
	for _, s := range plainTypes {
		b := []byte(s)
		view := unsafe.String(&b[0], len(b))
		if !Type(view) || string(b) != s {
			t.Errorf("%s", s)
		}
		b[0] = '?'
		if Type(view) || !Type(s) {
			t.Errorf("%s: something is kept", s)
		}
	}
}

// What is answered hangs on the program alone.
func TestAgain(t *testing.T) {
	m := maker{r: newRand(7)}
	type answer struct {
		p api.Prog
		s string
		e api.Errno
	}
	var list []answer
	for range 500 {
		p := m.prog()
		if m.r.IntN(2) == 0 {
			spoilOne(m.r, &p)
		}
		s, e := Show(p)
		list = append(list, answer{p, s, e})
	}
	for _, a := range slices.Backward(list) {
		if s, e := Show(keep(a.p)); s != a.s || e != a.e {
			t.Fatalf("%s, %d; not %s, %d", short(s), e, short(a.s), a.e)
		}
	}
}
