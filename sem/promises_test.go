package sem

import (
	"cmp"
	"fmt"
	"slices"
	"testing"
	"unsafe"

	"quern/api"
	"quern/value"
)

func sameAll(a, b []api.Value) bool { return slices.EqualFunc(a, b, alike) }

func sameOutcome(a, b api.Outcome) bool {
	return a.Err == b.Err && a.Fuel == b.Fuel && alike(a.Value, b.Value)
}

// look asks that a call answers what the plain model does, and all that the promises say of one call; and answers what it answers.
func look(t *testing.T, read, p api.Prog, states []api.Value, c api.Command, fuel int) ([]api.Value, api.Outcome) {
	t.Helper()
	out, o := Call(p, states, c, fuel)
	want, wanted := plainCall(read, states, c, fuel)
	if !sameAll(out, want) || !sameOutcome(o, wanted) {
		t.Fatalf("%+v: %s(%s) of %s with %d: %s; not %s", read, c.Name, shownAll(c.Args), shownAll(states), fuel, told(out, o), told(want, wanted))
	}
	wantState(t, p, states, c, out, o)
	wantFuel(t, p, states, c, fuel, out, o)
	return out, o
}

// wantState asks for P11.2 and P11.4.
func wantState(t *testing.T, p api.Prog, states []api.Value, c api.Command, out []api.Value, o api.Outcome) {
	t.Helper()
	fine := o.Fuel >= 0 && o.Fuel <= 4096
	switch o.Err {
	case api.ErrState:
		fine = len(out) == 0 && o.Fuel == 0 && !State(p, states)
	case api.OK:
		fine = fine && State(p, out) && value.Fits(o.Value, p.Fns[Handler(p, c)].Result)
	case api.ErrCommand:
		fine = fine && sameAll(out, states) && Handler(p, c) < 0
	case api.ErrOver, api.ErrZero, api.ErrKey, api.ErrSize:
		fine = fine && sameAll(out, states)
	case api.ErrFuel:
		fine = o.Fuel == 0 && sameAll(out, states)
	default:
		fine = false
	}
	if !fine || o.Err != api.OK && !alike(o.Value, api.Value{}) {
		t.Fatalf("%s of %s: %s", c.Name, shownAll(states), told(out, o))
	}
}

// wantFuel asks for P11.3.
func wantFuel(t *testing.T, p api.Prog, states []api.Value, c api.Command, fuel int, out []api.Value, o api.Outcome) {
	t.Helper()
	if o.Err == api.ErrState {
		return
	}
	fuel = min(max(fuel, 0), 4096)
	ask := func(other int, wanted api.Outcome) {
		got, told2 := Call(p, states, c, other)
		if !sameAll(got, out) || !sameOutcome(told2, wanted) {
			t.Fatalf("%s(%s) of %s with %d: %s; with %d: %s", c.Name, shownAll(c.Args), shownAll(states), fuel, told(out, o), other, told(got, told2))
		}
	}
	if o.Err == api.ErrFuel {
		for _, less := range []int{fuel - 1, fuel / 2, 1, 0} {
			if less < fuel {
				ask(less, o)
			}
		}
		return
	}
	spent := fuel - o.Fuel
	for _, more := range []int{spent, spent + 1, spent + 2, spent + 70, 4095, 4096} {
		if more >= spent && more <= 4096 {
			ask(more, api.Outcome{Value: o.Value, Err: o.Err, Fuel: more - spent})
		}
	}
	if spent > 0 {
		got, told2 := Call(p, states, c, spent-1)
		if !sameAll(got, states) || told2.Err != api.ErrFuel || told2.Fuel != 0 {
			t.Fatalf("%s(%s) of %s with %d: %s; with %d: %s", c.Name, shownAll(c.Args), shownAll(states), fuel, told(out, o), spent-1, told(got, told2))
		}
	}
}

// By chance, against the plain model.

// chance makes a program: as it was read, and as it was checked; now and then with what layer 12 makes, charges and numbers below 0.
func chance(t *testing.T, m *maker) (read, p api.Prog) {
	t.Helper()
	read, p = loaded(t, m.prog())
	if m.r.IntN(2) == 0 {
		for i := range p.Fns {
			m.optimized(&read.Fns[i].Body, &p.Fns[i].Body)
		}
	}
	return read, p
}

// optimized puts charges and numbers below 0 into the same places of both.
func (m *maker) optimized(a, b *[]api.Stmt) {
	for i := range *a {
		m.negated((*a)[i].E, (*b)[i].E)
		m.optimized(&(*a)[i].Body, &(*b)[i].Body)
		m.optimized(&(*a)[i].Else, &(*b)[i].Else)
	}
	if m.r.IntN(8) == 0 {
		s := api.Stmt{Kind: api.SCharge, Num: pick(m.r, []int{0, 1, 2, 3, 10, 100, 4096, 1 << 40})}
		i := m.r.IntN(len(*a) + 1)
		*a, *b = slices.Insert(*a, i, s), slices.Insert(*b, i, s)
	}
}

func (m *maker) negated(a, b []api.Expr) {
	for i := range a {
		if a[i].Kind == api.EInt && m.r.IntN(6) == 0 {
			a[i].Num, b[i].Num = -a[i].Num-1, -b[i].Num-1
		}
		m.negated(a[i].Args, b[i].Args)
	}
}

var someFuel = []int{0, 1, 2, 3, 5, 8, 13, 20, 30, 50, 80, 300, 4096, 4096, 5000, -1}

func TestRandomRuns(t *testing.T) {
	m := maker{r: newRand(2)}
	seen := map[api.Errno]int{}
	changed, answers, spent := 0, map[string]int{}, 0
	for range 4000 {
		read, p := chance(t, &m)
		states := m.states()
		for range 6 {
			c, fuel := m.command(), pick(m.r, someFuel)
			out, o := look(t, read, p, states, c, fuel)
			seen[o.Err]++
			if !sameAll(out, states) {
				changed++
			}
			if o.Err == api.OK {
				answers[p.Fns[Handler(p, c)].Result]++
				spent += min(max(fuel, 0), 4096) - o.Fuel
			}
			if m.r.IntN(3) > 0 {
				states = out
			} else {
				states = m.states()
			}
		}
	}
	for _, e := range []api.Errno{api.OK, api.ErrOver, api.ErrZero, api.ErrKey, api.ErrSize, api.ErrFuel, api.ErrCommand} {
		if seen[e] < 200 {
			t.Errorf("error %d: too few: %d", e, seen[e])
		}
	}
	if changed < 3000 || len(answers) < 12 || spent < 5000 {
		t.Error("too little is done:", changed, answers, spent)
	}
}

// P11.3, with all fuel there is.
func TestAllFuel(t *testing.T) {
	m := maker{r: newRand(3)}
	for range 150 {
		_, p := chance(t, &m)
		states, c := m.states(), m.command()
		last, end := Call(p, states, c, 4096)
		for fuel := 4095; fuel >= 0; fuel -= 1 + fuel/600 {
			out, o := Call(p, states, c, fuel)
			spent := 4096 - end.Fuel
			if end.Err != api.ErrFuel && fuel >= spent {
				if want := (api.Outcome{Value: end.Value, Err: end.Err, Fuel: fuel - spent}); !sameAll(out, last) || !sameOutcome(o, want) {
					t.Fatalf("with %d: %s; with 4096: %s", fuel, told(out, o), told(last, end))
				}
			} else if !sameAll(out, states) || !sameOutcome(o, api.Outcome{Err: api.ErrFuel}) {
				t.Fatalf("with %d: %s; with 4096: %s", fuel, told(out, o), told(last, end))
			}
		}
	}
}

// P11.5

// span is the memory that something has.
type span struct{ from, to uintptr }

func listSpan[T any](l []T) span {
	var one T
	from := uintptr(unsafe.Pointer(unsafe.SliceData(l)))
	return span{from, from + uintptr(cap(l))*unsafe.Sizeof(one)}
}

// textSpan leaves out texts of one byte: the language's own memory has each of them once, and nobody can write there.
func textSpan(s string) span {
	if len(s) < 2 {
		return span{}
	}
	from := uintptr(unsafe.Pointer(unsafe.StringData(s)))
	return span{from, from + uintptr(len(s))}
}

// spans answers the memory of a list of values, in all its depths.
func spans(l []api.Value) []span {
	out := []span{listSpan(l)}
	for _, v := range l {
		out = append(out, textSpan(v.Text))
		out = append(out, spans(v.List)...)
	}
	return out
}

// share tells whether two of these have a byte in common.
func share(l []span) bool {
	l = slices.DeleteFunc(slices.Clone(l), func(s span) bool { return s.from == s.to })
	slices.SortFunc(l, func(a, b span) int { return cmp.Compare(a.from, b.from) })
	for i := 1; i < len(l); i++ {
		if l[i-1].to > l[i].from {
			return true
		}
	}
	return false
}

// owner makes arguments in memory of its own, lists with spare room in which something stands, and texts that can be written over.
type owner struct {
	spans  []span
	memory [][]byte // of all lists and texts, as raw bytes
	wipes  []func()
}

func (o *owner) text(s string) string {
	if s == "" {
		return ""
	}
	b := []byte(s)
	o.memory = append(o.memory, b)
	o.wipes = append(o.wipes, func() { clear(b) })
	s = unsafe.String(&b[0], len(b))
	o.spans = append(o.spans, textSpan(s))
	return s
}

// roomy answers a list with spare room, in which something stands.
func roomy[T any](o *owner, l []T, spare T) []T {
	l = append(slices.Clone(l), spare, spare)
	at := listSpan(l)
	o.memory = append(o.memory, unsafe.Slice((*byte)(unsafe.Pointer(&l[0])), at.to-at.from))
	o.wipes = append(o.wipes, func() { clear(l[:cap(l)]) })
	o.spans = append(o.spans, at)
	return l[:len(l)-2]
}

func (o *owner) values(l []api.Value) []api.Value {
	l = roomy(o, l, api.Value{Kind: 77})
	for i := range l {
		l[i].Text, l[i].List = o.text(l[i].Text), o.values(l[i].List)
	}
	return l
}

func (o *owner) exprs(l []api.Expr) []api.Expr {
	l = roomy(o, l, api.Expr{Kind: 99})
	for i := range l {
		l[i].Text, l[i].Type, l[i].Args = o.text(l[i].Text), o.text(l[i].Type), o.exprs(l[i].Args)
	}
	return l
}

func (o *owner) stmts(l []api.Stmt) []api.Stmt {
	l = roomy(o, l, api.Stmt{Kind: 77})
	for i := range l {
		l[i].E, l[i].Body, l[i].Else = o.exprs(l[i].E), o.stmts(l[i].Body), o.stmts(l[i].Else)
	}
	return l
}

func (o *owner) slots(l []api.Slot) []api.Slot {
	l = roomy(o, l, api.Slot{Name: "spare"})
	for i := range l {
		l[i].Name, l[i].Type = o.text(l[i].Name), o.text(l[i].Type)
	}
	return l
}

func (o *owner) prog(p api.Prog) api.Prog {
	p.States = o.slots(p.States)
	p.Fns = roomy(o, p.Fns, api.Fn{Name: "spare"})
	for i := range p.Fns {
		f := &p.Fns[i]
		f.Name, f.Result, f.Params, f.Body = o.text(f.Name), o.text(f.Result), o.slots(f.Params), o.stmts(f.Body)
		f.Locals = roomy(o, f.Locals, "spare")
		for j := range f.Locals {
			f.Locals[j] = o.text(f.Locals[j])
		}
	}
	return p
}

// all answers all that the arguments hold, spare room included.
func (o *owner) all() string { return string(slices.Concat(o.memory...)) }

// spoil writes over all that the arguments hold.
func (o *owner) spoil() {
	for _, wipe := range o.wipes {
		wipe()
	}
}

// kept answers the values in memory of their own, texts too.
func kept(l []api.Value) []api.Value {
	var o owner
	return o.values(l)
}

// callMemory is the memory of what Call answers.
func callMemory(out []api.Value, o api.Outcome) []span {
	return append(spans(out), spans([]api.Value{o.Value})[1:]...)
}

// wantNew asks for P11.5 of one call.
func wantNew(t *testing.T, p api.Prog, states []api.Value, c api.Command, fuel int) api.Outcome {
	t.Helper()
	want, wanted := Call(p, states, c, fuel)
	want, wanted.Value = kept(want), kept([]api.Value{wanted.Value})[0]
	var o owner
	prog, ahead, cmd := o.prog(p), o.values(states), api.Command{Name: o.text(c.Name), Args: o.values(c.Args)}
	before := o.all()
	out, first := Call(prog, ahead, cmd, fuel)
	other, second := Call(prog, ahead, cmd, fuel)
	zero, n, is := Zero(prog), Handler(prog, cmd), State(prog, ahead)
	if o.all() != before {
		t.Fatalf("%s of %s: what was handed in is changed", c.Name, shownAll(states))
	}
	if share(slices.Concat(o.spans, callMemory(out, first), callMemory(other, second), spans(zero), spans(Zero(prog)))) {
		t.Fatalf("%s of %s: %s: it shares memory", c.Name, shownAll(states), told(out, first))
	}
	o.spoil()
	if !sameAll(out, want) || !sameOutcome(first, wanted) || !sameAll(zero, Zero(p)) || n != Handler(p, c) || is != State(p, states) {
		t.Fatalf("%s of %s: %s; then %s", c.Name, shownAll(states), told(want, wanted), told(out, first))
	}
	wipe(out)
	wipe([]api.Value{first.Value})
	if !sameAll(other, want) || !sameOutcome(second, wanted) {
		t.Fatalf("%s of %s: %s; then %s", c.Name, shownAll(states), told(want, wanted), told(other, second))
	}
	return first
}

// wipe writes over lists in all their depths.
func wipe(l []api.Value) {
	for _, v := range l {
		wipe(v.List)
	}
	clear(l[:cap(l)])
}

func TestNewMemory(t *testing.T) {
	m := maker{r: newRand(4)}
	seen := map[api.Errno]int{}
	for range 700 {
		_, p := chance(t, &m)
		for range 3 {
			states := m.states()
			if m.r.IntN(20) == 0 {
				states = states[1:]
			}
			seen[wantNew(t, p, states, m.command(), pick(m.r, someFuel)).Err]++
		}
	}
	for _, e := range []api.Errno{api.OK, api.ErrKey, api.ErrFuel, api.ErrCommand, api.ErrState} {
		if seen[e] < 20 {
			t.Errorf("error %d: too few: %d", e, seen[e])
		}
	}
}

// What comes to several places of an answer stands in each of them by itself.
func TestSharedValues(t *testing.T) {
	states := valuesOf(list{list{1, 2}, list{3}}, list{list{7}}, dict{"key": "some text"}, "another text")
	head := "state a: [[int]]; state b: [[int]]; state m: {text:text}; state s: text; fn same(x: [[int]]): [[int]] { ret x; } "
	for _, c := range []string{
		"on h(): [[int]] {}", "on h(): [[int]] { ret a; }", "on h(): [[int]] { set b = a; ret a; }", "on h(): [[int]] { set b = a; set a = b; let c = b; ret c; }", "on h(): [[int]] { set a = push(a, a[0]); set a = push(a, a[0]); set b = a; ret push(a, a[0]); }",
		"on h(): [[int]] { set a[0] = a[1]; set b[0] = a[1]; ret b; }", "on h(): [[int]] { set b = same(a); ret same(b); }", "on h(): text { set s = \"a constant text\"; set m[s] = s; ret s; }", "on h(): text { set m[s] = m[\"key\"]; set s = m[s]; ret s; }", "on h(): {text:text} { set m[s] = s + \"\"; set m[\"\" + s] = s; ret m; }", "on h(): text { set s = str(12345); set m[s] = s; ret s; }",
		"on h(): [[int]] { set b = a; set a[9] = a[0]; ret a; }", "on h(): text { set s = \"a constant text\"; ret m[s]; }", "on h(): {text:text} { for i to 3 { set m[str(i)] = s; } ret m; }", "on h(): {text:text} { del m[\"\"]; ret m; }",
	} {
		_, p := loaded(t, head+c)
		for _, fuel := range []int{0, 9} {
			wantNew(t, p, states, command("h"), fuel)
			wantNew(t, p, states, command("none"), fuel)
		}
	}
	_, p := loaded(t, head+"on h(x: [[int]], y: text): [[int]] { set a = x; set b = push(a, x[0]); set s = y; set m[y] = y; ret x; }")
	wantNew(t, p, states, command("h", list{list{5, 6}}, "the text"), 9)
	wantNew(t, p, states, command("h", list{}, "the text"), 9)
	// One list and one text stand at several places of what is handed in.
	inner := valuesOf(1, 2)
	row := api.Value{Kind: 4, List: inner}
	rows := api.Value{Kind: 4, List: []api.Value{row, row}}
	again := []api.Value{rows, rows, states[2], states[3]}
	for _, c := range []api.Command{{Name: "h", Args: []api.Value{rows, states[3]}}, {Name: "none"}} {
		out, o := Call(p, again, c, 9)
		if share(callMemory(out, o)) || o.Err != api.OK && c.Name == "h" {
			t.Errorf("%s: it shares memory", told(out, o))
		}
	}
}

func TestOperatorsNewMemory(t *testing.T) {
	texts := []string{"", "two", times("z", 100), times("z", 256)}
	for _, a := range texts {
		for _, b := range texts {
			for op := 1; op < 15; op++ {
				var o owner
				l := o.values(valuesOf(a, b))
				before := o.all()
				v, e := Binary(op, l[0], l[1])
				w, _ := Binary(op, l[0], l[1])
				if o.all() != before || share(slices.Concat(o.spans, spans([]api.Value{v, w}))) {
					t.Fatalf("%d of %q and %q: %s, %d: it shares memory", op, a, b, shown(v), e)
				}
				o.spoil()
				if want, _ := plainBinary(op, valueOf(a), valueOf(b)); !alike(v, want) {
					t.Fatalf("%d of %q and %q: %s", op, a, b, shown(v))
				}
			}
		}
	}
	for _, n := range []int{0, 9, 10, 42, 99, 100, -1, -10, greatest, least} {
		v, _ := Str(valueOf(n))
		w, _ := Str(valueOf(n))
		if share(spans([]api.Value{v, w})) {
			t.Errorf("Str of %d: two answers share memory", n)
		}
	}
}

// What is answered hangs on the arguments alone, whatever was asked ahead.
func TestAgain(t *testing.T) {
	m := maker{r: newRand(5)}
	var asks []func() string
	var answers []string
	for range 400 {
		_, p := chance(t, &m)
		states, c, fuel := m.states(), m.command(), pick(m.r, someFuel)
		ask := func() string {
			out, o := Call(p, states, c, fuel)
			return fmt.Sprintf("%+v %+v %d %v", kept(out), o, Handler(p, c), State(p, states))
		}
		asks, answers = append(asks, ask), append(answers, ask())
	}
	for i, ask := range slices.Backward(asks) {
		if again := ask(); again != answers[i] {
			t.Fatalf("%s; then %s", answers[i], again)
		}
	}
}

// Of a program that no check answered nothing is promised; a call of it ends all the same, and doesn't panic.
func TestOthers(t *testing.T) {
	m := maker{r: newRand(6)}
	for range 1500 {
		read, p := loaded(t, m.prog())
		if m.r.IntN(4) == 0 {
			p = read
		}
		for range 1 + m.r.IntN(3) {
			for i := range p.Fns {
				m.spoilStmts(p.Fns[i].Body)
			}
		}
		wantQuiet(t, p, m.states(), m.command(), pick(m.r, someFuel))
	}
	back := api.Stmt{Kind: api.SCharge, Num: -1}
	_, p := loaded(t, "on h(): int { for i to 9223372036854775807 { let a = 1; } }")
	p.Fns[0].Body[0].Body[0] = back
	if _, o := Call(p, nil, command("h"), 50); o.Err != api.ErrFuel || o.Fuel != 0 {
		t.Errorf("charges below 0: %+v", o)
	}
	_, p = loaded(t, "fn f(): int { ret 1; } on h(): int { ret f(); }")
	p.Fns[1].Body[0].E[0].Slot = 1
	if _, o := Call(p, nil, command("h"), 4096); o.Err != api.ErrFuel || o.Fuel != 0 {
		t.Errorf("a function that calls itself: %+v", o)
	}
	p.Fns[1].Body[0].E[0].Slot = 2
	if _, o := Call(p, nil, command("h"), 50); o.Err != api.ErrCode || o.Fuel != 49 {
		t.Errorf("a function that isn't there: %+v", o)
	}
	wantQuiet(t, api.Prog{}, nil, api.Command{}, 9)
	wantQuiet(t, api.Prog{Fns: []api.Fn{{On: true}}}, nil, api.Command{}, 9)
}

// wantQuiet asks that a call neither panics nor changes the state beside an error.
func wantQuiet(t *testing.T, p api.Prog, states []api.Value, c api.Command, fuel int) {
	t.Helper()
	if out, o := Call(p, states, c, fuel); o.Err != api.OK && (!alike(o.Value, api.Value{}) || o.Err != api.ErrState && !sameAll(out, states)) {
		t.Fatalf("%s: %s", shownAll(states), told(out, o))
	}
}

func (m *maker) spoilStmts(l []api.Stmt) {
	for i := range l {
		s := &l[i]
		if m.r.IntN(12) == 0 {
			switch m.r.IntN(6) {
			case 0:
				s.Kind = m.r.IntN(10) - 1
			case 1:
				s.Slot = pick(m.r, []int{-1, 0, 1, 2, 31, 32, greatest, least})
			case 2:
				s.State = !s.State
			case 3:
				s.E = nil
			case 4:
				s.E = append(s.E, s.E...)
			case 5:
				s.Num = pick(m.r, []int{-1, 0, 1, least, greatest})
			}
		}
		m.spoilExprs(s.E)
		m.spoilStmts(s.Body)
		m.spoilStmts(s.Else)
	}
}

func (m *maker) spoilExprs(l []api.Expr) {
	for i := range l {
		x := &l[i]
		if m.r.IntN(20) == 0 {
			switch m.r.IntN(5) {
			case 0:
				x.Kind = m.r.IntN(19) - 1
			case 1:
				x.Slot = pick(m.r, []int{-1, 0, 1, 2, 3, 31, 32, greatest, least})
			case 2:
				x.Args = nil
			case 3:
				x.Op = m.r.IntN(17) - 1
			case 4:
				x.Num = pick(m.r, []int{-1, 2, least, greatest})
			}
		}
		m.spoilExprs(x.Args)
	}
}
