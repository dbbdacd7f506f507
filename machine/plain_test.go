package machine

import (
	"bytes"
	"encoding/binary"
	"fmt"
	"math"
	"math/rand/v2"
	"slices"
	"strconv"
	"strings"
	"testing"

	"quern/api"
	"quern/lex"
	"quern/parse"
	"quern/types"
	"quern/value"
)

const least, greatest = math.MinInt, math.MaxInt

// Values, as the tables have them: 5, true, "ab", [7, 8], {1: 2}.

func number(n int) api.Value            { return api.Value{Kind: 1, Num: n} }
func word(s string) api.Value           { return api.Value{Kind: 3, Text: s} }
func list(l ...api.Value) api.Value     { return api.Value{Kind: 4, List: l} }
func values(l ...api.Value) []api.Value { return l }
func long(n int) api.Value              { return word(strings.Repeat("t", n)) }

// all reads values.
func all(s string) []api.Value {
	l, rest := part(s + "]")
	if rest != "" {
		panic("no values: " + s)
	}
	return l
}

// part reads values up to a closing bracket, and answers what stands behind it.
func part(s string) (out []api.Value, rest string) {
	for {
		s = strings.TrimLeft(s, " ,:")
		switch s[0] {
		case ']', '}':
			return out, s[1:]
		case '[', '{':
			kind := 4 + strings.Index("[{", s[:1])
			var l []api.Value
			l, s = part(s[1:])
			out = append(out, api.Value{Kind: kind, List: l})
		case '"':
			text, rest, _ := strings.Cut(s[1:], `"`)
			out, s = append(out, word(text)), rest
		default:
			end := strings.IndexAny(s, ",:]} ")
			out, s = append(out, plainWord(s[:end])), s[end:]
		}
	}
}

func plainWord(s string) api.Value {
	if n, err := strconv.Atoi(s); err == nil {
		return number(n)
	}
	return api.Value{Kind: 2, Num: strings.Index("false true", s) / 6}
}

func shown(v api.Value) string {
	switch v.Kind {
	case 1:
		return fmt.Sprint(v.Num)
	case 2:
		return fmt.Sprint(v.Num == 1)
	case 3:
		return fmt.Sprintf("%.20q", v.Text)
	case 4:
		return "[" + shownAll(v.List) + "]"
	case 5:
		var pairs []string
		for i := 0; i+1 < len(v.List); i += 2 {
			pairs = append(pairs, shown(v.List[i])+": "+shown(v.List[i+1]))
		}
		return "{" + strings.Join(pairs, ", ") + "}"
	}
	return fmt.Sprintf("kind %d", v.Kind)
}

func shownAll(l []api.Value) string {
	var out []string
	for _, v := range l {
		out = append(out, shown(v))
	}
	return strings.Join(out, ", ")
}

func alike(a, b api.Value) bool {
	return a.Kind == b.Kind && a.Num == b.Num && a.Text == b.Text && allAlike(a.List, b.List)
}

func allAlike(a, b []api.Value) bool { return slices.EqualFunc(a, b, alike) }

func sameCommand(a, b api.Command) bool { return a.Name == b.Name && allAlike(a.Args, b.Args) }

func sameOutcome(a, b api.Outcome) bool {
	return a.Err == b.Err && a.Fuel == b.Fuel && alike(a.Value, b.Value)
}

// told is what a call answers, as the tables have it: the states, the answer or the error, the fuel.
func told(states []api.Value, o api.Outcome) string {
	what := shown(o.Value)
	if o.Err != api.OK {
		what = map[api.Errno]string{
			api.ErrNil: "ErrNil", api.ErrState: "ErrState", api.ErrCommand: "ErrCommand",
			api.ErrOver: "ErrOver", api.ErrZero: "ErrZero", api.ErrKey: "ErrKey", api.ErrSize: "ErrSize", api.ErrFuel: "ErrFuel",
		}[o.Err]
	}
	return strings.TrimPrefix(fmt.Sprintf("%s -> %s / %d", shownAll(states), what, o.Fuel), " ")
}

// command reads one: add(5).
func command(s string) api.Command {
	name, args, _ := strings.Cut(s, "(")
	return api.Command{Name: name, Args: all(strings.TrimSuffix(args, ")"))}
}

// Programs.

// checked answers what layers 7 and 10 read.
func checked(s string) (api.Prog, int, api.Errno) {
	p, at, e := parse.Parse(s)
	if e != api.OK {
		return api.Prog{}, at, e
	}
	return types.Check(p)
}

// loaded answers what was read of a text that is right, and its machine.
func loaded(t *testing.T, s string) (api.Prog, *Machine) {
	t.Helper()
	p, at, e := checked(s)
	if e != api.OK {
		t.Fatalf("%s: %d at %d", s, e, at)
	}
	m, at, e := Load(s)
	if m == nil || at != 0 || e != api.OK {
		t.Fatalf("%s: %v, %d, %d", s, m != nil, at, e)
	}
	return p, m
}

// A command's bytes, word by word; the library knows such numbers too.

func plainNumber(b []byte, n int) []byte { return binary.AppendUvarint(b, uint64(n)) }

func counts(b, others []byte) []byte { return append(plainNumber(b, len(others)), others...) }

// inner answers the types of a type's places and of what stands there; none of a plain type.
func inner(of string) (place, part string) {
	if of[0] == '[' {
		return "int", of[1 : len(of)-1]
	}
	if of[0] == '{' {
		place, part, _ = strings.Cut(of[1:len(of)-1], ":")
	}
	return place, part
}

func plainValue(b []byte, v api.Value) []byte {
	switch v.Kind {
	case 1:
		if v.Num < 0 {
			return plainNumber(plainNumber(b, 1), ^v.Num)
		}
		return plainNumber(plainNumber(b, 0), v.Num)
	case 2:
		return plainNumber(b, v.Num)
	case 3:
		return counts(b, []byte(v.Text))
	}
	b = plainNumber(b, len(v.List)/(v.Kind-3))
	for _, x := range v.List {
		b = plainValue(b, x)
	}
	return b
}

// plainNames tells whether a command names one of these handlers.
func plainNames(p api.Prog, c api.Command) bool {
	for _, f := range p.Fns {
		if !f.On || f.Name != c.Name || len(f.Params) != len(c.Args) {
			continue
		}
		for i, s := range f.Params {
			if !value.Fits(c.Args[i], s.Type) {
				return false
			}
		}
		return true
	}
	return false
}

// plainEncode answers what Encode does; no bytes beside ErrCommand.
func plainEncode(p api.Prog, c api.Command) ([]byte, api.Errno) {
	if !plainNames(p, c) {
		return nil, api.ErrCommand
	}
	b := counts(nil, []byte(c.Name))
	for _, v := range c.Args {
		b = counts(b, plainValue(nil, v))
	}
	return b, api.OK
}

// source is bytes that are read without any care for what is wrong with them: whoever reads asks in the end whether what was read has these bytes.
type source []byte

func (s *source) number() int {
	n, size := binary.Uvarint(*s)
	if size <= 0 {
		*s = nil
		return 0
	}
	*s = (*s)[size:]
	return int(n & greatest)
}

func (s *source) counted() source {
	n := min(s.number(), len(*s))
	out := (*s)[:n]
	*s = (*s)[n:]
	return out
}

func (s *source) value(of string) api.Value {
	switch of {
	case "int":
		if s.number() == 0 {
			return number(s.number())
		}
		return number(^s.number())
	case "bool":
		return api.Value{Kind: 2, Num: s.number()}
	case "text":
		return word(string(s.counted()))
	}
	key, part := inner(of)
	v := api.Value{Kind: 4 + strings.Index("[{", of[:1])}
	for range min(s.number(), 65) { // one more than there may be is enough to be wrong
		if key != "" && of[0] == '{' {
			v.List = append(v.List, s.value(key))
		}
		v.List = append(v.List, s.value(part))
	}
	return v
}

// plainDecode answers what Decode does.
func plainDecode(p api.Prog, b []byte) (api.Command, api.Errno) {
	s := source(b)
	c := api.Command{Name: string(s.counted())}
	for _, f := range p.Fns {
		if !f.On || f.Name != c.Name {
			continue
		}
		for _, param := range f.Params {
			arg := s.counted()
			c.Args = append(c.Args, arg.value(param.Type))
		}
	}
	if own, e := plainEncode(p, c); e != api.OK || !bytes.Equal(own, b) {
		return api.Command{}, api.ErrCommand
	}
	return c, api.OK
}

// Programs, values, commands by chance.

func newRand(seed uint64) *rand.Rand       { return rand.New(rand.NewPCG(16, seed)) }
func pick[T any](r *rand.Rand, list []T) T { return list[r.IntN(len(list))] }

var (
	someTypes   = strings.Fields("[int] [int] [text] {int:int} {text:int} {text:[int]} [[bool]] {int:{text:text}} [[[int]]] {text:[{int:bool}]}")
	someNumbers = []int{0, 0, 0, 1, 1, 1, 2, 2, 3, 4, 7, 63, 64, 127, 128, 300, -1, -1, -2, -64, 1 << 40, 3037000500, greatest, greatest - 1, least, least + 1}
	someTexts   = []string{"", "", "a", "a", "a", "b", "ab", "\x00\xff", "a key", `"`, strings.Repeat("z", 60), strings.Repeat("y", 127), strings.Repeat("x", 128), strings.Repeat("w", 256)}
	someTurns   = strings.Fields("0 1 2 2 3 3 7 -1 64 4096 4097 9223372036854775807 $int$ $int$ $int$")
)

// variable is something that can be named.
type variable struct {
	name, of string
	turn     bool // a for's local, which can't be set
}

// writer writes the texts of programs that are right, as far as nothing is too much. It writes forms, in which an expr is to stand in the place of each type between two $.
type writer struct {
	r      *rand.Rand
	kinds  []string // the types that the program has
	fns    []api.Fn // the functions and handlers so far
	sight  []variable
	locals int // of the function under way
	result string
}

// text writes a program: its states stand anywhere among its functions.
func (w *writer) text() string {
	w.kinds, w.fns, w.sight = strings.Fields("int int bool text"), nil, nil
	var items []string
	for range w.r.IntN(4) {
		for of := pick(w.r, someTypes); of != "" && !slices.Contains(w.kinds, of); _, of = inner(of) {
			f := api.Fn{Name: fmt.Sprint("z", len(w.fns)), Result: of} // what answers the first value
			w.kinds, w.fns = append(w.kinds, of), append(w.fns, f)
			items = append(items, fmt.Sprintf("fn %s(): %s {}", f.Name, of))
		}
	}
	var states []string
	for i := range w.r.IntN(7) {
		of := pick(w.r, w.kinds)
		w.sight = append(w.sight, variable{name: fmt.Sprint("s", i), of: of})
		states = append(states, fmt.Sprintf("state s%d: %s;", i, of))
	}
	n := 1 + w.r.IntN(6)
	for i := range n {
		items = append(items, w.function(fmt.Sprint("f", i), i == n-1 || w.r.IntN(2) == 0))
	}
	at := 0
	for _, s := range states {
		at += w.r.IntN(len(items) - at + 1)
		items = slices.Insert(items, at, s)
		at++
	}
	return fmt.Sprintf("version %d;\n%s\n", pick(w.r, []int{1, 2, 300, 1 << 40}), strings.Join(items, "\n"))
}

func (w *writer) function(name string, on bool) string {
	states, word := len(w.sight), "fn"
	if on {
		word = "on"
	}
	f := api.Fn{Name: name, On: on, Result: pick(w.r, w.kinds)}
	var params []string
	for i := range pick(w.r, []int{0, 1, 1, 2, 2, 3, 8}) {
		s := api.Slot{Name: fmt.Sprint("p", i), Type: pick(w.r, w.kinds)}
		f.Params, params = append(f.Params, s), append(params, s.Name+": "+s.Type)
		w.sight = append(w.sight, variable{name: s.Name, of: s.Type})
	}
	w.locals, w.result = len(params), f.Result
	body := w.statements(3)
	if w.r.IntN(5) > 0 {
		body += w.fill("ret $"+f.Result+"$; ", 3)
	}
	w.sight, w.fns = w.sight[:states], append(w.fns, f)
	return fmt.Sprintf("%s %s(%s): %s { %s}", word, name, strings.Join(params, ", "), f.Result, body)
}

// fill writes a form, with exprs that have others within them, so deep.
func (w *writer) fill(form string, deep int) string {
	parts := strings.Split(form, "$")
	for i := 1; i < len(parts); i += 2 {
		parts[i] = w.expr(parts[i], deep)
	}
	return strings.Join(parts, "")
}

func (w *writer) block(deep int, more ...variable) string {
	sight := len(w.sight)
	w.sight = append(w.sight, more...)
	s := w.statements(deep)
	w.sight = w.sight[:sight]
	return "{ " + s + "}"
}

func (w *writer) statements(deep int) string {
	s := ""
	for range 1 + w.r.IntN(4) {
		s += w.statement(deep) + " "
	}
	return s
}

func (w *writer) statement(deep int) string {
	choice := w.r.IntN(14)
	fresh := variable{fmt.Sprint("v", w.locals), pick(w.r, w.kinds), false}
	switch {
	case choice < 2 && w.locals < 24:
		s := w.fill("let "+fresh.name+" = $"+fresh.of+"$;", 2)
		w.locals++
		w.sight = append(w.sight, fresh)
		return s
	case choice < 8 || deep == 0:
		return w.change(choice)
	case choice < 10:
		return w.fill("if $bool$ ", 2) + w.block(deep-1)
	case choice < 11:
		return w.fill("if $bool$ ", 2) + w.block(deep-1) + " else " + w.block(deep-1)
	case choice < 13 && w.locals < 24:
		s := w.fill("for "+fresh.name+" to "+pick(w.r, someTurns)+" ", 2)
		w.locals++
		if w.r.IntN(4) == 0 {
			return s + "{}"
		}
		return s + w.block(deep-1, variable{fresh.name, "int", true})
	}
	return w.fill("if $bool$ { ret $"+w.result+"$; }", 2)
}

// change writes a set or a del of what can be changed so, if there is any.
func (w *writer) change(choice int) string {
	var forms []string
	for _, x := range w.sight {
		place, part := inner(x.of)
		switch {
		case x.turn:
		case choice < 5 || place == "":
			forms = append(forms, fmt.Sprintf("set %s = $%s$;", x.name, x.of))
		case choice < 7 || x.of[0] == '[':
			forms = append(forms, fmt.Sprintf("set %s[$%s$] = $%s$;", x.name, place, part))
		default:
			forms = append(forms, fmt.Sprintf("del %s[$%s$];", x.name, place))
		}
	}
	if len(forms) == 0 {
		return ""
	}
	return w.fill(pick(w.r, forms), 2)
}

func (w *writer) expr(of string, deep int) string {
	forms := []string{w.plain(of)}
	for _, x := range w.sight {
		if x.of == of {
			forms = append(forms, x.name, x.name)
		}
	}
	if deep > 0 {
		forms = append(forms, w.forms(of)...)
	}
	return w.fill(pick(w.r, forms), deep-1)
}

// plain answers what stands for itself; of lists and maps, a call of what answers the first value.
func (w *writer) plain(of string) string {
	switch of {
	case "int":
		n := pick(w.r, someNumbers)
		if n < 0 {
			return fmt.Sprint("-", ^n)
		}
		return fmt.Sprint(n)
	case "bool":
		return pick(w.r, []string{"true", "false"})
	case "text":
		return lex.Quote(pick(w.r, []string{"", "a", "a", "b", "a key", `a "quote" \`, strings.Repeat("z", 60), strings.Repeat("w", 256)}))
	}
	i := slices.IndexFunc(w.fns, func(f api.Fn) bool { return f.Result == of })
	return w.fns[i].Name + "()"
}

// forms answers how a value of a type can be made of others.
func (w *writer) forms(of string) []string {
	var out []string
	kind := pick(w.r, w.kinds)
	place, _ := inner(kind)
	_, part := inner(of)
	add := func(is bool, forms string) {
		if is {
			out = append(out, strings.Split(forms, "; ")...)
		}
	}
	add(of == "int", "($int$ + $int$); ($int$ - $int$); $int$ * $int$; $int$ / $int$; $int$ % $int$; $int$ - $int$; -$int$")
	add(of == "int" && kind != "int" && kind != "bool", "len($"+kind+"$); len($"+kind+"$)")
	add(of == "bool", "($int$ < $int$); ($int$ <= $int$); ($text$ > $text$); ($int$ >= $int$); ($"+kind+"$ == $"+kind+"$); ($"+kind+"$ != $"+kind+"$)")
	add(of == "bool", "($bool$ && $bool$); ($bool$ || $bool$); $bool$ || $bool$; $bool$ && $bool$; !$bool$")
	add(of == "bool" && kind[0] == '{', "has($"+kind+"$, $"+place+"$); has($"+kind+"$, $"+place+"$)")
	add(of == "text", "($text$ + $text$); $text$ + $text$; str($int$)")
	add(of[0] == '[', "push($"+of+"$, $"+part+"$); push($"+of+"$, $"+part+"$)")
	for _, f := range w.fns {
		var args []string
		for _, s := range f.Params {
			args = append(args, "$"+s.Type+"$")
		}
		add(f.Result == of && !f.On && len(f.Params) > 0, f.Name+"("+strings.Join(args, ", ")+")")
	}
	for _, x := range w.sight {
		place, part := inner(x.of)
		add(part == of, x.name+"[$"+place+"$]")
	}
	return out
}

// program writes one that is loaded.
func (w *writer) program(t *testing.T) (string, api.Prog, *Machine) {
	t.Helper()
	for {
		s := w.text()
		_, at, e := Load(s)
		if e == api.OK {
			p, m := loaded(t, s)
			return s, p, m
		}
		if e != api.ErrMany && e != api.ErrDeep && e != api.ErrLong {
			t.Fatalf("%s: %d at %d", s, e, at)
		}
	}
}

// value makes one of a type, with so many parts, or fewer if it were too heavy.
func (w *writer) value(of string, parts int) api.Value {
	v := value.Zero(of)
	place, part := inner(of)
	switch of {
	case "int":
		return number(pick(w.r, someNumbers))
	case "bool":
		return api.Value{Kind: 2, Num: w.r.IntN(2)}
	case "text":
		return word(pick(w.r, someTexts))
	}
	for range parts {
		x, changed := w.value(part, pick(w.r, []int{0, 1, 2})), v
		if v.Kind == api.VList {
			changed, _ = value.Push(v, x)
		} else {
			changed, _ = value.Put(v, w.value(place, 0), x)
		}
		if value.Fits(changed, of) {
			v = changed
		}
	}
	return v
}

// of makes a value for each slot.
func (w *writer) of(slots []api.Slot) []api.Value {
	var out []api.Value
	for _, s := range slots {
		out = append(out, w.value(s.Type, pick(w.r, []int{0, 1, 2, 3, 5, 64})))
	}
	return out
}

// commands makes one for each handler.
func (w *writer) commands(p api.Prog) []api.Command {
	var out []api.Command
	for _, f := range p.Fns {
		if f.On {
			out = append(out, api.Command{Name: f.Name, Args: w.of(f.Params)})
		}
	}
	return out
}
