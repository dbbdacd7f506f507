package machine

import (
	"cmp"
	"fmt"
	"slices"
	"strings"
	"testing"
	"unsafe"

	"quern/api"
	"quern/lex"
	"quern/parse"
	"quern/sem"
	"quern/show"
)

// P16.1, by chance: texts that were right, with something else in them.

// spoiled answers a text with something in it gone, more, or another.
func spoiled(w *writer, s string) string {
	for range 1 + w.r.IntN(2) {
		tokens, _, _ := lex.Lex(s)
		if len(tokens) < 2 {
			return s
		}
		i := w.r.IntN(len(tokens) - 1)
		from, to := tokens[i].At, tokens[i+1].At
		word := pick(w.r, tokens).Text // a text is a name then, or several
		if w.r.IntN(2) == 0 {
			word = pick(w.r, strings.Split("x|n|s0|v0|p0|f0|f1|z0|int|bool|text|true|1|\"a\"|07|$|\x00|\"|#|(|)|{|}|[|]|;|:|,|=|==|<|+|-|!|&&|if|else|ret|set|let|del|for i to|fn g(): int {}|on h(): text {}|state t: int;|version 2;|len|push", "|"))
		}
		switch w.r.IntN(8) {
		case 0:
			s = s[:from]
		case 1:
			s = s[:from] + s[to:]
		case 2, 3:
			s = s[:from] + " " + word + " " + s[from:]
		case 4:
			at := w.r.IntN(len(s))
			s = s[:at] + word + s[at+1:]
		default:
			s = s[:from] + " " + word + " " + s[to:]
		}
	}
	return s
}

func TestRandomFaults(t *testing.T) {
	w := writer{r: newRand(1)}
	seen := map[api.Errno]int{}
	for range 400 {
		s, _, _ := w.program(t)
		for range 20 {
			src := spoiled(&w, s)
			p, at, e := checked(src)
			m, place, told := Load(src)
			if (m != nil) != (e == api.OK) || place != at || told != e {
				t.Fatalf("%q: %v, %d, %d; not %d at %d", src, m != nil, place, told, e, at)
			}
			seen[e]++
			if e != api.OK {
				continue
			}
			if m.Version() != p.Version || !slices.Equal(m.States(), p.States) {
				t.Fatalf("%q: %d, %v", src, m.Version(), m.States())
			}
			for _, c := range w.commands(p) {
				wantSame(t, src, p, m, m.Zero(), c, 100)
			}
		}
	}
	for _, e := range []api.Errno{api.OK, api.ErrToken, api.ErrSyntax, api.ErrName, api.ErrTwice, api.ErrType} {
		if seen[e] < 10 {
			t.Errorf("error %d: too few: %d", e, seen[e])
		}
	}
}

// What machines tell of themselves.
func TestRandomHeads(t *testing.T) {
	w := writer{r: newRand(2)}
	fit := map[bool]int{}
	for range 500 {
		s, p, m := w.program(t)
		if m.Version() != p.Version || !slices.Equal(m.States(), p.States) || !allAlike(m.Zero(), sem.Zero(p)) || !m.Fits(m.Zero()) {
			t.Fatalf("%s: %d, %v, %s", s, m.Version(), m.States(), shownAll(m.Zero()))
		}
		for range 10 {
			states := w.of(p.States)
			spoil(&w, &states)
			if m.Fits(states) != sem.State(p, states) {
				t.Fatalf("%s: %s fits: %v", s, shownAll(states), m.Fits(states))
			}
			fit[m.Fits(states)]++
		}
		for _, f := range p.Fns {
			kinds := []string{}
			for _, s := range f.Params {
				kinds = append(kinds, s.Type)
			}
			wantHas := func(want bool, name string, kinds ...string) {
				t.Helper()
				if m.Has(name, kinds...) != want {
					t.Fatalf("%s: has %s %s: %v", s, name, kinds, !want)
				}
			}
			wantHas(f.On, f.Name, kinds...)
			wantHas(false, f.Name+"0", kinds...)
			wantHas(false, f.Name[1:], kinds...)
			wantHas(false, f.Name, append(kinds, "int")...)
			if len(kinds) > 0 {
				wantHas(false, f.Name, kinds[1:]...)
				wantHas(false, f.Name, append(slices.Clone(kinds[1:]), "[[[bool]]]")...)
				turned := slices.Clone(kinds)
				slices.Reverse(turned)
				wantHas(f.On && slices.Equal(turned, kinds), f.Name, turned...)
			}
		}
	}
	if fit[true] < 500 || fit[false] < 500 {
		t.Error(fit)
	}
}

// spoil makes something of values another, or takes one out, or puts one in: not always are they others then.
func spoil(w *writer, l *[]api.Value) {
	if len(*l) == 0 || w.r.IntN(5) == 0 {
		*l = slices.Insert(*l, w.r.IntN(len(*l)+1), number(1))
		return
	}
	i := w.r.IntN(len(*l))
	v := &(*l)[i]
	switch w.r.IntN(7) {
	case 0:
		*l = slices.Delete(*l, i, i+1)
	case 1:
		v.Kind = w.r.IntN(8) - 1
	case 2:
		v.Num += pick(w.r, []int{-1, 1, 1, 2})
	case 3:
		v.Text += pick(w.r, []string{"", "a", strings.Repeat("a", 256)})
	case 4:
		*v = w.value(pick(w.r, w.kinds), 2)
	default:
		spoil(w, &v.List)
	}
}

// P16.2

// wantSame asks that a call, and one by the command's bytes, is what the text means; and answers what it answers.
func wantSame(t *testing.T, src string, p api.Prog, m *Machine, states []api.Value, c api.Command, fuel int) ([]api.Value, api.Outcome) {
	t.Helper()
	want, wanted := sem.Call(p, states, c, fuel)
	out, o := m.Call(states, c, fuel)
	if !allAlike(out, want) || !sameOutcome(o, wanted) {
		t.Fatalf("%s\n%s(%s) of %s with %d: %s; not %s", src, c.Name, shownAll(c.Args), shownAll(states), fuel, told(out, o), told(want, wanted))
	}
	b, _ := m.Encode(c) // of no command there are none, and none is what they are the bytes of
	if out, o := m.Apply(states, b, fuel); !allAlike(out, want) || !sameOutcome(o, wanted) {
		t.Fatalf("%s\n%s(%s) of %s with %d: Apply: %s; not %s", src, c.Name, shownAll(c.Args), shownAll(states), fuel, told(out, o), told(want, wanted))
	}
	return out, o
}

// wantAllSame does so with much fuel, just enough, one less, and others; of the call with much it answers what that answers.
func wantAllSame(t *testing.T, w *writer, src string, p api.Prog, m *Machine, states []api.Value, c api.Command) ([]api.Value, api.Outcome) {
	t.Helper()
	out, o := wantSame(t, src, p, m, states, c, 4096)
	spent := 4096 - o.Fuel
	for _, fuel := range []int{spent, spent - 1, spent + 1, spent / 2, 0, 1, 2, w.r.IntN(30), -1, 4097, greatest, least} {
		wantSame(t, src, p, m, states, c, fuel)
	}
	return out, o
}

func TestRandomPrograms(t *testing.T) {
	w := writer{r: newRand(3)}
	seen, changed, spent := map[api.Errno]int{}, 0, 0
	for range 1000 {
		src, p, m := w.program(t)
		states := w.of(p.States)
		for _, c := range w.commands(p) {
			next, o := wantAllSame(t, &w, src, p, m, states, c)
			seen[o.Err]++
			if !allAlike(next, states) {
				changed++
			}
			if o.Err == api.OK && o.Fuel < 4096 {
				spent++
			}
			states = next
		}
	}
	for _, e := range []api.Errno{api.OK, api.ErrOver, api.ErrZero, api.ErrKey, api.ErrSize, api.ErrFuel} {
		if seen[e] < 40 {
			t.Errorf("error %d: too few: %d", e, seen[e])
		}
	}
	if changed < 300 || spent < 300 {
		t.Error(seen, changed, spent)
	}
}

// Commands and states with something wrong: which of them it is.
func TestRandomWrong(t *testing.T) {
	w := writer{r: newRand(4)}
	seen := map[api.Errno]int{}
	for range 500 {
		src, p, m := w.program(t)
		for _, c := range w.commands(p) {
			states := w.of(p.States)
			if w.r.IntN(3) == 0 {
				spoil(&w, &states)
			}
			switch w.r.IntN(4) {
			case 0:
				c.Name = pick(w.r, []string{"", "f", "z0", "f0", "f1", "s0", c.Name + "0", c.Name[1:]})
			case 1, 2:
				spoil(&w, &c.Args)
			}
			for _, fuel := range []int{4096, w.r.IntN(10), 0, -1, 5000} {
				_, o := wantSame(t, src, p, m, states, c, fuel)
				seen[o.Err]++
			}
		}
	}
	if seen[api.OK] < 300 || seen[api.ErrState] < 300 || seen[api.ErrCommand] < 300 {
		t.Error(seen)
	}
}

// From the first state on, by many commands, of a text and of what it is shown as.
func TestHistories(t *testing.T) {
	w := writer{r: newRand(5)}
	seen := map[api.Errno]int{}
	for range 150 {
		src, p, m := w.program(t)
		read, _, _ := parse.Parse(src)
		s, e := show.Show(read)
		if e == api.ErrLong {
			continue
		}
		anew, again := loaded(t, s)
		states := m.Zero()
		for range 30 {
			c := pick(w.r, w.commands(p))
			fuel := pick(w.r, []int{0, 3, 20, 100, 4096, 4096})
			out, o := wantSame(t, src, p, m, states, c, fuel)
			wantSame(t, s, anew, m, states, c, fuel)
			wantSame(t, src, p, again, states, c, fuel)
			seen[o.Err]++
			if !m.Fits(out) {
				t.Fatalf("%s\n%s(%s) of %s: %s: no state", src, c.Name, shownAll(c.Args), shownAll(states), shownAll(out))
			}
			states = out
		}
	}
	if seen[api.OK] < 1000 || seen[api.ErrFuel] < 50 || seen[api.ErrKey] < 50 {
		t.Error(seen)
	}
}

// P16.3

// many writes a program whose handlers have params of many types.
func (w *writer) many() string {
	s := "version 1; state n: int;"
	for i, name := range strings.Fields("f ff g g1 abcdefghijklmnop _ on_") {
		var params []string
		for j := range w.r.IntN(9) {
			params = append(params, fmt.Sprintf("p%d: %s", j, pick(w.r, append([]string{"int", "bool", "text"}, someTypes...))))
		}
		s += fmt.Sprintf(" %s %s(%s): int { ret %d; }", pick(w.r, strings.Fields("on on on fn")), name, strings.Join(params, ", "), i)
	}
	return s
}

func TestThereAndBack(t *testing.T) {
	w := writer{r: newRand(6)}
	seen, turned := map[api.Errno]int{}, map[bool]int{}
	for range 300 {
		src := w.many()
		p, m := loaded(t, src)
		w.kinds = strings.Fields("int bool text [int] {text:int}")
		for _, c := range w.commands(p) {
			for _, wrong := range []bool{false, true} {
				if wrong {
					spoil(&w, &c.Args)
				}
				b, e := m.Encode(c)
				want, wanted := plainEncode(p, c)
				if string(b) != string(want) || e != wanted {
					t.Fatalf("%s: %s(%.500s): %.500x, %d; not %.500x, %d", src, c.Name, shownAll(c.Args), b, e, want, wanted)
				}
				seen[e]++
				if e != api.OK {
					continue
				}
				if back, e := m.Decode(b); !sameCommand(back, c) || e != api.OK {
					t.Fatalf("%s: %.500x: %s(%.500s), %d; not %s(%.500s)", src, b, back.Name, shownAll(back.Args), e, c.Name, shownAll(c.Args))
				}
				for range 10 {
					turned[wantAsPlain(t, p, m, w.spoiledBytes(b))]++
				}
			}
		}
	}
	if seen[api.OK] < 1000 || seen[api.ErrCommand] < 500 || turned[true] < 500 || turned[false] < 500 {
		t.Error(seen, turned)
	}
}

// spoiledBytes answers bytes with one to three of them others, more or gone.
func (w *writer) spoiledBytes(b []byte) []byte {
	b = slices.Clone(b)
	for range 1 + w.r.IntN(3) {
		i := w.r.IntN(min(len(b), 40) + 1)
		switch w.r.IntN(5) {
		case 0:
			b = slices.Insert(b, i, byte(w.r.IntN(3)))
		case 1:
			b = slices.Delete(b, i, min(i+1, len(b)))
		case 2:
			b = b[:w.r.IntN(len(b)+1)]
		default:
			if i < len(b) {
				b[i] = pick(w.r, []byte{b[i] + 1, b[i] - 1, b[i] ^ 0x80, 0, 1, 'a', byte(w.r.IntN(256))})
			}
		}
	}
	return b
}

// All short bytes.
func TestShortBytes(t *testing.T) {
	p, m := loaded(t, "version 1; on f(x: int): int {} on g(): int {} on a(x: bool): int {} on b(x: text): int {} on ab(x: [bool]): int {}")
	some, are := []byte{0, 1, 2, 3, 5, 0x80, 0x81, 'a', 'b', 'f', 'g', 0xff}, 0
	var try func(b []byte)
	try = func(b []byte) {
		if wantAsPlain(t, p, m, b) {
			are++
		}
		if len(b) < 5 {
			for _, x := range some {
				try(append(b[:len(b):len(b)], x))
			}
		}
	}
	try(nil)
	if are != 1+2*9+2+1+12+1 { // g; f of the nine numbers, and below 0; a of both; b of no byte, and of each; ab of none
		t.Error(are)
	}
}

// P16.4

// span is the memory that something has.
type span struct{ from, to uintptr }

func listSpan[T any](l []T) span {
	var one T
	from := uintptr(unsafe.Pointer(unsafe.SliceData(l)))
	return span{from, from + uintptr(cap(l))*unsafe.Sizeof(one)}
}

// textSpan leaves out texts of one byte: the language's own memory has each of them once, and nobody can write there.
func textSpan(s string) span {
	if len(s) < 2 {
		return span{}
	}
	from := uintptr(unsafe.Pointer(unsafe.StringData(s)))
	return span{from, from + uintptr(len(s))}
}

// spans answers the memory of a list of values, in all its depths.
func spans(l []api.Value) []span {
	out := []span{listSpan(l)}
	for _, v := range l {
		out = append(out, textSpan(v.Text))
		out = append(out, spans(v.List)...)
	}
	return out
}

// share tells whether two of these have a byte in common.
func share(l []span) bool {
	l = slices.DeleteFunc(slices.Clone(l), func(s span) bool { return s.from == s.to })
	slices.SortFunc(l, func(a, b span) int { return cmp.Compare(a.from, b.from) })
	for i := 1; i < len(l); i++ {
		if l[i-1].to > l[i].from {
			return true
		}
	}
	return false
}

// owner makes arguments in memory of its own, lists with spare room in which something stands, and texts that can be written over.
type owner struct {
	spans []span
	bytes [][]byte // of all lists and texts
	wipes []func()
}

func (o *owner) text(s string) string {
	if s == "" {
		return ""
	}
	b := []byte(s)
	o.bytes = append(o.bytes, b)
	o.wipes = append(o.wipes, func() { clear(b) })
	s = unsafe.String(&b[0], len(b))
	o.spans = append(o.spans, textSpan(s))
	return s
}

func roomy[T any](o *owner, l []T, spare T) []T {
	l = append(slices.Clone(l), spare, spare)
	at := listSpan(l)
	o.bytes = append(o.bytes, unsafe.Slice((*byte)(unsafe.Pointer(&l[0])), at.to-at.from))
	o.wipes = append(o.wipes, func() { clear(l[:cap(l)]) })
	o.spans = append(o.spans, at)
	return l[:len(l)-2]
}

func (o *owner) values(l []api.Value) []api.Value {
	l = roomy(o, l, api.Value{Kind: 99})
	for i := range l {
		l[i].Text, l[i].List = o.text(l[i].Text), o.values(l[i].List)
	}
	return l
}

func (o *owner) texts(l []string) []string {
	l = roomy(o, l, "spare")
	for i := range l {
		l[i] = o.text(l[i])
	}
	return l
}

func (o *owner) command(c api.Command) api.Command {
	return api.Command{Name: o.text(c.Name), Args: o.values(c.Args)}
}

// all answers all that the arguments hold, spare room included.
func (o *owner) all() string { return string(slices.Concat(o.bytes...)) }

func (o *owner) wipe() {
	for _, wipe := range o.wipes {
		wipe()
	}
}

func wipe(l []api.Value) {
	for _, v := range l {
		wipe(v.List)
	}
	clear(l[:cap(l)])
}

// answer is what a call answered: its memory, what it is by now, what writes over it.
type answer struct {
	spans []span
	tell  func() string
	wipe  func()
}

// plainAnswer answers one that has no memory.
func plainAnswer(x any) answer {
	s := fmt.Sprint(x)
	return answer{nil, func() string { return s }, func() {}}
}

func stateAnswer(l []api.Value, o api.Outcome) answer {
	return answer{
		slices.Concat(spans(l), spans(values(o.Value))[1:]),
		func() string { return fmt.Sprint(l, o) },
		func() { wipe(l); wipe(o.Value.List) },
	}
}

// asked is a call, whose arguments the owner makes; it says ready when they are made.
type asked func(o *owner, ready func()) answer

// calls answers each call of a machine, of a state and a command.
func calls(m *Machine, states []api.Value, c api.Command, b []byte, kinds []string, fuel int) []asked {
	return []asked{
		func(*owner, func()) answer { return plainAnswer(m.Version()) },
		func(*owner, func()) answer {
			l := m.States()
			at := []span{listSpan(l)}
			for _, s := range l {
				at = append(at, textSpan(s.Name), textSpan(s.Type))
			}
			return answer{at, func() string { return fmt.Sprint(l) }, func() { clear(l[:cap(l)]) }}
		},
		func(*owner, func()) answer { return stateAnswer(m.Zero(), api.Outcome{}) },
		func(o *owner, ready func()) answer {
			l := o.values(states)
			ready()
			return plainAnswer(m.Fits(l))
		},
		func(o *owner, ready func()) answer {
			name, l := o.text(c.Name), o.texts(kinds)
			ready()
			return plainAnswer(m.Has(name, l...))
		},
		func(o *owner, ready func()) answer {
			c := o.command(c)
			ready()
			b, e := m.Encode(c)
			return answer{[]span{listSpan(b)}, func() string { return fmt.Sprint(b, e) }, func() { clear(b[:cap(b)]) }}
		},
		func(o *owner, ready func()) answer {
			b := roomy(o, b, 99)
			ready()
			c, e := m.Decode(b)
			return answer{append(spans(c.Args), textSpan(c.Name)), func() string { return fmt.Sprint(c, e) }, func() { wipe(c.Args) }}
		},
		func(o *owner, ready func()) answer {
			l, c := o.values(states), o.command(c)
			ready()
			return stateAnswer(m.Call(l, c, fuel))
		},
		func(o *owner, ready func()) answer {
			l, b := o.values(states), roomy(o, b, 99)
			ready()
			return stateAnswer(m.Apply(l, b, fuel))
		},
	}
}

// facts is what all of these answer.
func facts(l []asked) string {
	s := ""
	for _, ask := range l {
		s += ask(&owner{}, func() {}).tell() + "\n"
	}
	return s
}

// wantNew asks for P16.4 of each of these calls, each one twice: what was handed in is the same behind it; nothing shares memory; what was handed in and answered is written over then, and all else stays as it was.
func wantNew(t *testing.T, l []asked) {
	t.Helper()
	before := facts(l)
	for i, ask := range l {
		var own owner
		var answers []answer
		want := ask(&owner{}, func() {}).tell()
		for range 2 {
			held := ""
			answers = append(answers, ask(&own, func() { held = own.all() }))
			if held != "" && own.all() != held {
				t.Fatalf("call %d: what was handed in is changed", i)
			}
		}
		if share(slices.Concat(own.spans, answers[0].spans, answers[1].spans)) {
			t.Fatalf("call %d: memory is shared: %.500s", i, want)
		}
		own.wipe()
		for range 2 {
			if got := answers[0].tell(); got != want {
				t.Fatalf("call %d: %.500s; not %.500s", i, got, want)
			}
			answers[0].wipe()
			answers = answers[1:]
		}
		if after := facts(l); after != before {
			t.Fatalf("call %d: the machine is another one: %.500s; not %.500s", i, after, before)
		}
	}
}

// ownLoad loads a text that is written over then.
func ownLoad(t *testing.T, src string) *Machine {
	t.Helper()
	var own owner
	m, at, e := Load(own.text(src))
	if own.all() != src {
		t.Fatal("the text is changed")
	}
	own.wipe()
	if e != api.OK {
		t.Fatalf("%s: %d at %d", src, e, at)
	}
	return m
}

func TestNewMemory(t *testing.T) {
	states, seen := all(`5, [1, 2, 3], {"a key": 1, "another key": 2}`), map[api.Errno]int{}
	for _, s := range []string{
		"add(5)", "add(9223372036854775807)", "turns(9)", "turns(10)", "calls()", `zero(3)`, "zero(0)", `key("a key")`, `key("none")`, `put("a third key", 3)`, `put("a key", 3)`, `drop("a key")`, `double("text")`, "first()", "early(4)", "early(1)", "never(true)",
		"sub(5)", `("a text")`, `add("a text")`, "add([5, 6])", "twice(5)",
	} {
		m := ownLoad(t, busy)
		c := command(s)
		b, e := m.Encode(c)
		if e != api.OK {
			b = []byte("no command")
		}
		for _, l := range [][]api.Value{states, states[:2], nil} {
			wantNew(t, calls(m, l, c, b, []string{"text", "int"}, 9))
			_, o := m.Call(l, c, 9)
			seen[o.Err]++
		}
	}
	m := ownLoad(t, `version 2; state t: text; state l: [text]; on f(): text { let a = "a constant"; set t = a; set l = push(push(l, a), a); ret a; } on g(x: [[text]]): [[text]] { if len(x) > 0 { set l = x[0]; } ret push(x, l); } on h(x: text): [text] { set t = x; set l = push(push(l, t), x); ret l; }`)
	for _, s := range []string{"f()", "g([])", `g([["one", "two"], ["one"]])`, `h("some text")`} {
		b, _ := m.Encode(command(s))
		wantNew(t, calls(m, all(`"a state", ["another", "third"]`), command(s), b, []string{"[[text]]"}, 9))
	}
	w := writer{r: newRand(7)}
	for range 300 {
		src, p, _ := w.program(t)
		m := ownLoad(t, src)
		for _, c := range w.commands(p) {
			states := w.of(p.States)
			fuel := pick(w.r, []int{0, 5, 100})
			b, _ := m.Encode(c)
			if w.r.IntN(3) == 0 {
				spoil(&w, &c.Args)
				b = w.spoiledBytes(b)
			}
			wantNew(t, calls(m, states, c, b, strings.Fields("int {text:int}"), fuel))
			_, o := m.Call(states, c, fuel)
			seen[o.Err]++
		}
	}
	for _, e := range []api.Errno{api.OK, api.ErrState, api.ErrCommand, api.ErrFuel, api.ErrKey, api.ErrOver} {
		if seen[e] < 5 {
			t.Errorf("error %d: too few: %v", e, seen)
		}
	}
}

// One list and one text stand at several places of what is handed in: what is answered shares nothing all the same.
func TestSharedParts(t *testing.T) {
	_, m := loaded(t, "version 1; state a: [text]; state b: [text]; state c: [[text]]; on f(x: [text], y: text): [[text]] { set b = x; set c = push(push(push(c, a), x), b); set a = push(x, y); ret c; } on g(x: [text], y: text): [text] { set b = x; ret push(b, str(1 / 0)); }")
	text := strings.Clone("one text")
	one := list(word(text), word(text))
	states, args := values(one, one, list(one, one)), values(one, word(text))
	given := []span{listSpan(states), listSpan(states[2].List), listSpan(args), listSpan(one.List), textSpan(text)}
	for _, name := range []string{"f", "g", "h"} {
		out, o := m.Call(states, api.Command{Name: name, Args: args}, 9)
		if share(slices.Concat(given, spans(out), spans(values(o.Value)))) {
			t.Errorf("%s: memory is shared: %s", name, told(out, o))
		}
	}
}

// What a machine answers hangs on its text and the arguments alone: whatever it and others were asked meanwhile, in whichever order.
func TestAgain(t *testing.T) {
	w := writer{r: newRand(8)}
	type known struct {
		src   string
		m     *Machine
		asked []asked
		facts string
	}
	var l []known
	for range 100 {
		src, p, m := w.program(t)
		k := known{src: src, m: m}
		for _, c := range w.commands(p) {
			b, _ := m.Encode(c)
			k.asked = append(k.asked, calls(m, w.of(p.States), c, b, nil, w.r.IntN(200))...)
		}
		k.facts = facts(k.asked)
		l = append(l, k)
	}
	for range 3 {
		w.r.Shuffle(len(l), func(i, j int) { l[i], l[j] = l[j], l[i] })
		for _, k := range l {
			if got := facts(k.asked); got != k.facts {
				t.Fatalf("%s: %.500s; not %.500s", k.src, got, k.facts)
			}
		}
	}
	for _, k := range l { // of a machine that was loaded by itself too
		p, m := loaded(t, k.src)
		if m.Version() != k.m.Version() || !slices.Equal(m.States(), k.m.States()) {
			t.Fatalf("%s: %v; not %v", k.src, m.States(), k.m.States())
		}
		for _, c := range w.commands(p) {
			states := w.of(p.States)
			out, o := m.Call(states, c, 200)
			if again, o2 := k.m.Call(states, c, 200); !allAlike(out, again) || !sameOutcome(o, o2) {
				t.Fatalf("%s: %s; not %s", k.src, told(again, o2), told(out, o))
			}
		}
	}
}
