package image

import (
	"bytes"
	"encoding/binary"
	"fmt"
	"math"
	"math/rand/v2"
	"slices"
	"strconv"
	"strings"
	"testing"

	"quern/api"
	"quern/machine"
	"quern/parse"
	"quern/sem"
	"quern/types"
	"quern/value"
)

const least, greatest = math.MinInt, math.MaxInt

// Values, as the tables have them: 5, true, "ab", [7, 8], {1: 2}, and none, which is of no kind.

func number(n int) api.Value            { return api.Value{Kind: 1, Num: n} }
func word(s string) api.Value           { return api.Value{Kind: 3, Text: s} }
func list(l ...api.Value) api.Value     { return api.Value{Kind: 4, List: l} }
func pairs(l ...api.Value) api.Value    { return api.Value{Kind: 5, List: l} }
func values(l ...api.Value) []api.Value { return l }
func long(n int) api.Value              { return word(strings.Repeat("t", n)) }

// all reads values.
func all(s string) []api.Value {
	l, rest := part(s + "]")
	if rest != "" {
		panic("no values: " + s)
	}
	return l
}

// one reads a value.
func one(s string) api.Value { return all(s)[0] }

// part reads values up to a closing bracket, and answers what stands behind it.
func part(s string) (out []api.Value, rest string) {
	for {
		s = strings.TrimLeft(s, " ,:")
		switch s[0] {
		case ']', '}':
			return out, s[1:]
		case '[', '{':
			kind := 4 + strings.Index("[{", s[:1])
			var l []api.Value
			l, s = part(s[1:])
			out = append(out, api.Value{Kind: kind, List: l})
		case '"':
			text, rest, _ := strings.Cut(s[1:], `"`)
			out, s = append(out, word(text)), rest
		default:
			end := strings.IndexAny(s, ",:]} ")
			out, s = append(out, plainWord(s[:end])), s[end:]
		}
	}
}

func plainWord(s string) api.Value {
	if s == "none" {
		return api.Value{}
	}
	if n, err := strconv.Atoi(s); err == nil {
		return number(n)
	}
	return api.Value{Kind: 2, Num: strings.Index("false true", s) / 6}
}

// shown writes a value so, with what its kind doesn't have, or shouldn't, told behind it.
func shown(v api.Value) string {
	var s string
	switch v.Kind {
	case 0:
		s = "none"
	case 1:
		s, v.Num = fmt.Sprint(v.Num), 0
	case 2:
		s, v.Num = fmt.Sprint(v.Num != 0), max(v.Num, 1)-1
	case 3:
		s, v.Text = fmt.Sprintf("%.20q", v.Text), ""
	case 4:
		s, v.List = "["+shownAll(v.List)+"]", nil
	case 5:
		s, v.List = shownPairs(v.List), nil
	default:
		s = fmt.Sprint("kind ", v.Kind)
	}
	if v.Num != 0 || v.Text != "" || len(v.List) > 0 {
		s += fmt.Sprintf("(%d, %.20q, %s)", v.Num, v.Text, shownAll(v.List))
	}
	return s
}

func shownPairs(l []api.Value) string {
	s := "{"
	for i, v := range l {
		s += []string{", ", ": "}[i%2] + shown(v)
	}
	return strings.Replace(s+"}", "{, ", "{", 1)
}

func shownAll(l []api.Value) string {
	var out []string
	for _, v := range l {
		out = append(out, shown(v))
	}
	return strings.Join(out, ", ")
}

func alike(a, b api.Value) bool {
	return a.Kind == b.Kind && a.Num == b.Num && a.Text == b.Text && allAlike(a.List, b.List)
}

func allAlike(a, b []api.Value) bool { return slices.EqualFunc(a, b, alike) }

func sameOutcome(a, b api.Outcome) bool {
	return a.Err == b.Err && a.Fuel == b.Fuel && alike(a.Value, b.Value)
}

func errorName(e api.Errno) string {
	names := map[api.Errno]string{
		api.OK: "OK", api.ErrNil: "ErrNil", api.ErrForm: "ErrForm", api.ErrState: "ErrState", api.ErrVersion: "ErrVersion",
		api.ErrOver: "ErrOver", api.ErrZero: "ErrZero", api.ErrKey: "ErrKey", api.ErrSize: "ErrSize", api.ErrFuel: "ErrFuel",
	}
	if s, ok := names[e]; ok {
		return s
	}
	return fmt.Sprint("error ", int(e))
}

// told is what Migrate answers, as the tables have it: the state, the answer or the error, the fuel.
func told(states []api.Value, o api.Outcome) string {
	what := errorName(o.Err)
	if o.Err == api.OK || !alike(o.Value, api.Value{}) {
		what = shown(o.Value) + strings.TrimPrefix(what, "OK")
	}
	return strings.TrimPrefix(fmt.Sprintf("%s -> %s / %d", shownAll(states), what, o.Fuel), " ")
}

// Programs.

// program is one as layers 7 and 10 read it, and its machine.
type program struct {
	src string
	api.Prog
	m *machine.Machine
}

func loaded(t *testing.T, src string) program {
	t.Helper()
	p, _, _ := parse.Parse(src)
	p, at, e := types.Check(p)
	m, _, wrong := machine.Load(src)
	if m == nil || e != api.OK || wrong != api.OK {
		t.Fatalf("%s: %d, %d at %d", src, wrong, e, at)
	}
	return program{src, p, m}
}

// Images, word by word; the library knows such numbers too.

func plainNumber(b []byte, n int) []byte { return binary.AppendUvarint(b, uint64(n)) }

func counts(b []byte, others string) []byte { return append(plainNumber(b, len(others)), others...) }

// inner answers the types of a type's places and of what stands there; none of a plain type.
func inner(of string) (place, part string) {
	if of[0] == '[' {
		return "int", of[1 : len(of)-1]
	}
	if of[0] == '{' {
		place, part, _ = strings.Cut(of[1:len(of)-1], ":")
	}
	return place, part
}

func plainInt(b []byte, n int) []byte {
	if n < 0 {
		return plainNumber(plainNumber(b, 1), ^n)
	}
	return plainNumber(plainNumber(b, 0), n)
}

func plainValue(b []byte, v api.Value) []byte {
	switch v.Kind {
	case 1:
		return plainInt(b, v.Num)
	case 2:
		return plainNumber(b, v.Num)
	case 3:
		return counts(b, v.Text)
	}
	b = plainNumber(b, len(v.List)/(v.Kind-3))
	for _, x := range v.List {
		b = plainValue(b, x)
	}
	return b
}

func plainSchema(p api.Prog) string {
	var lines []string
	for _, s := range p.States {
		lines = append(lines, s.Name+": "+s.Type+";\n")
	}
	return strings.Join(lines, "")
}

// plainEncode answers what Encode does; no bytes beside ErrState.
func plainEncode(p api.Prog, states []api.Value) ([]byte, api.Errno) {
	if !sem.State(p, states) {
		return nil, api.ErrState
	}
	b := counts(plainNumber(nil, p.Version), plainSchema(p))
	for _, v := range states {
		b = counts(b, string(plainValue(nil, v)))
	}
	return b, api.OK
}

// source is bytes that are read without any care for what is wrong with them: whoever reads asks in the end whether what was read has these bytes.
type source []byte

func (s *source) number() int {
	n, size := binary.Uvarint(*s)
	if size <= 0 {
		*s = nil
		return 0
	}
	*s = (*s)[size:]
	return int(n & greatest)
}

func (s *source) counted() source {
	n := min(s.number(), len(*s))
	out := (*s)[:n]
	*s = (*s)[n:]
	return out
}

func (s *source) int() api.Value {
	if s.number() == 0 {
		return number(s.number())
	}
	return number(^s.number())
}

func (s *source) value(of string) api.Value {
	switch of {
	case "int":
		return s.int()
	case "bool":
		return api.Value{Kind: 2, Num: s.number()}
	case "text":
		return word(string(s.counted()))
	}
	key, part := inner(of)
	v := api.Value{Kind: 4 + strings.Index("[{", of[:1])}
	for range min(s.number(), 65) { // one more than there may be is enough to be wrong
		if of[0] == '{' {
			v.List = append(v.List, s.value(key))
		}
		v.List = append(v.List, s.value(part))
	}
	return v
}

// shortest tells whether bytes begin with a number as it must be, and with how many bytes.
func shortest(b []byte) (n, size int, ok bool) {
	x, size := binary.Uvarint(b)
	return int(x), size, size > 0 && x <= greatest && len(plainNumber(nil, int(x))) == size
}

// plainDecode answers what Decode does.
func plainDecode(p api.Prog, b []byte) ([]api.Value, api.Errno) {
	version, size, ok := shortest(b)
	if !ok {
		return nil, api.ErrForm
	}
	n, more, ok := shortest(b[size:])
	if size += more; !ok || n > len(b)-size {
		return nil, api.ErrForm
	}
	if version != p.Version || string(b[size:size+n]) != plainSchema(p) {
		return nil, api.ErrVersion
	}
	var states []api.Value
	s := source(b[size+n:])
	for _, slot := range p.States {
		x := s.counted()
		states = append(states, x.value(slot.Type))
	}
	if own, e := plainEncode(p, states); e != api.OK || !bytes.Equal(own, b) {
		return nil, api.ErrForm
	}
	return states, api.OK
}

// plainMigrate answers what Migrate does.
func plainMigrate(old api.Prog, states []api.Value, next api.Prog, fuel int) ([]api.Value, api.Outcome) {
	if !sem.State(old, states) {
		return nil, api.Outcome{Err: api.ErrState}
	}
	if next.Version-old.Version != 1 {
		return nil, api.Outcome{Err: api.ErrVersion}
	}
	held := map[[2]string]api.Value{}
	for i, s := range old.States {
		held[[2]string{s.Name, s.Type}] = states[i]
	}
	out := sem.Zero(next)
	for i, s := range next.States {
		if v, ok := held[[2]string{s.Name, s.Type}]; ok {
			out[i] = v
		}
	}
	for _, f := range next.Fns {
		if f.Name != "upgrade" || !f.On || len(f.Params) > 0 {
			continue
		}
		out, o := sem.Call(next, out, api.Command{Name: "upgrade"}, fuel)
		if o.Err != api.OK {
			out = nil
		}
		return out, o
	}
	return out, api.Outcome{Fuel: max(0, min(4096, fuel))}
}

// plainAny answers what Any does.
func plainAny(v api.Value) []byte {
	b := plainNumber(nil, v.Kind)
	switch v.Kind {
	case 1:
		return plainInt(b, v.Num)
	case 2:
		return plainNumber(b, v.Num)
	case 3:
		return counts(b, v.Text)
	case 4, 5:
		b = plainNumber(b, len(v.List))
		for _, x := range v.List {
			b = append(b, plainAny(x)...)
		}
		return b
	}
	return []byte{0}
}

func (s *source) any(deep int) api.Value {
	v := api.Value{Kind: s.number()}
	switch v.Kind {
	case 1:
		return s.int()
	case 2:
		v.Num = s.number()
	case 3:
		v.Text = string(s.counted())
	case 4, 5:
		for range min(s.number(), len(*s)+1) {
			v.List = append(v.List, s.any(deep+1))
		}
	}
	return v
}

// deepest answers how deep the deepest of a value's parts lies in it.
func deepest(v api.Value) int {
	deep := 0
	for _, x := range v.List {
		deep = max(deep, 1+deepest(x))
	}
	return deep
}

// plainReadAny answers what ReadAny does.
func plainReadAny(b []byte) (api.Value, api.Errno) {
	s := source(b)
	v := s.any(0)
	if !bytes.Equal(plainAny(v), b) || deepest(v) > 24 {
		return api.Value{}, api.ErrForm
	}
	return v, api.OK
}

// Values and programs by chance.

func newRand(seed uint64) *rand.Rand       { return rand.New(rand.NewPCG(17, seed)) }
func pick[T any](r *rand.Rand, list []T) T { return list[r.IntN(len(list))] }

var (
	someTypes   = strings.Fields("int int int bool text text [int] [text] {int:int} {text:int} {text:[int]} [[bool]] {int:{text:text}} [[[int]]] {text:[{int:bool}]}")
	someNumbers = []int{0, 0, 0, 1, 1, 1, 2, 2, 3, 4, 7, 63, 64, 127, 128, 300, 16383, 16384, -1, -1, -2, -64, -128, -129, 1 << 40, greatest, greatest - 1, least, least + 1}
	someTexts   = []string{"", "", "a", "a", "b", "ab", "\x00\xff", "a key", `"`, strings.Repeat("z", 60), strings.Repeat("y", 127), strings.Repeat("x", 128), strings.Repeat("w", 256)}
)

// valueOf makes one of a type, with so many parts, or fewer if it were too heavy.
func valueOf(r *rand.Rand, of string, parts int) api.Value {
	v := value.Zero(of)
	place, part := inner(of)
	switch of {
	case "int":
		return number(pick(r, someNumbers))
	case "bool":
		return api.Value{Kind: 2, Num: r.IntN(2)}
	case "text":
		return word(pick(r, someTexts))
	}
	for range parts {
		x, changed := valueOf(r, part, pick(r, []int{0, 1, 2})), v
		if v.Kind == api.VList {
			changed, _ = value.Push(v, x)
		} else {
			changed, _ = value.Put(v, valueOf(r, place, 0), x)
		}
		if value.Fits(changed, of) {
			v = changed
		}
	}
	return v
}

// stateOf makes a state.
func stateOf(r *rand.Rand, p api.Prog) []api.Value {
	var out []api.Value
	for _, s := range p.States {
		out = append(out, valueOf(r, s.Type, pick(r, []int{0, 1, 2, 3, 5, 64})))
	}
	return out
}

// spoil makes something of values another, or takes one out, or puts one in: not always are they others then.
func spoil(r *rand.Rand, l *[]api.Value) {
	if len(*l) == 0 || r.IntN(5) == 0 {
		*l = slices.Insert(*l, r.IntN(len(*l)+1), number(1))
		return
	}
	i := r.IntN(len(*l))
	v := &(*l)[i]
	switch r.IntN(8) {
	case 0:
		*l = slices.Delete(*l, i, i+1)
	case 1:
		v.Kind = r.IntN(8) - 1
	case 2:
		v.Num += pick(r, []int{-1, 1, 1, 2})
	case 3:
		v.Text += pick(r, []string{"", "a", strings.Repeat("a", 256)})
	case 4:
		*v = valueOf(r, pick(r, someTypes), 2)
	case 5:
		j := r.IntN(len(*l))
		(*l)[i], (*l)[j] = (*l)[j], (*l)[i]
	default:
		spoil(r, &v.List)
	}
}

// spoiledBytes answers bytes with one to three of them others, more or gone.
func spoiledBytes(r *rand.Rand, b []byte) []byte {
	b = slices.Clone(b)
	for range 1 + r.IntN(3) {
		i := r.IntN(min(len(b), 80) + 1)
		switch r.IntN(6) {
		case 0:
			b = slices.Insert(b, i, byte(r.IntN(3)))
		case 1:
			b = slices.Delete(b, i, min(i+1, len(b)))
		case 2:
			b = b[:r.IntN(len(b)+1)]
		default:
			if i < len(b) {
				b[i] = pick(r, []byte{b[i] + 1, b[i] - 1, b[i] ^ 0x80, 0, 1, 'a', byte(r.IntN(256))})
			}
		}
	}
	return b
}

// someVersions are close to one another, so that one is often the next of another.
var someVersions = []int{1, 2, 3, 126, 127, 128, 1<<40 - 1, 1 << 40}

// someStates writes states of few names, so that two programs have some of the same.
func someStates(r *rand.Rand) []string {
	names := strings.Fields("a b c ab abc n m upgrade1 _ abcdefghijklmnop")
	r.Shuffle(len(names), func(i, j int) { names[i], names[j] = names[j], names[i] })
	var out []string
	for _, name := range names[:r.IntN(6)] {
		out = append(out, "state "+name+": "+pick(r, someTypes)+";")
	}
	return out
}

// change answers a program's states with something of them others, or in another order; or others.
func change(r *rand.Rand, states []string) []string {
	more := someStates(r)
	out := slices.Clone(states)
	switch r.IntN(6) {
	case 0:
		return more
	case 1:
		r.Shuffle(len(out), func(i, j int) { out[i], out[j] = out[j], out[i] })
	case 2:
		out = out[:r.IntN(len(out)+1)]
	case 3:
		for i := range out {
			if r.IntN(2) == 0 {
				name, _, _ := strings.Cut(out[i], ":")
				out[i] = name + ": " + pick(r, someTypes) + ";"
			}
		}
	case 4:
		for _, s := range more {
			name, _, _ := strings.Cut(s, ":")
			if !slices.ContainsFunc(out, func(s string) bool { return strings.HasPrefix(s, name+":") }) {
				out = slices.Insert(out, r.IntN(len(out)+1), s)
			}
		}
	}
	return out
}

// statements writes what may be done to states: a % stands for the state's name.
func statements(r *rand.Rand, states []string) string {
	forms := map[string]string{
		"int": "set % = % * 10 + 1;|set % = % - 1;|set % = 7 / (% + 1);|for i to % {}|for i to 5 { set % = % + i; }|if % > 3 { ret up(%); }|ret %;", "bool": "set % = !%;|if % { ret 3; }|if % { ret up(1 / 0); }",
		"text": "set % = % + %;|set % = str(len(%));", "[int]": "set % = push(%, len(%));|set %[0] = %[len(%) - 1] + 1;|for i to len(%) { set %[i] = up(%[i]); }", "[text]": `set % = push(%, "x");|set %[0] = %[0] + "y";`,
		"{int:int}": "set %[len(%)] = 5;|del %[0];|set %[1] = %[1] + 1;", "{text:int}": `set %[str(len(%))] = 1;|del %["a"];|set %[""] = %[""] * 2;`, "{text:[int]}": `set %["a"] = push(%["a"], 5);|del %[""];`,
	}
	out := ""
	for range r.IntN(6) {
		if len(states) == 0 {
			continue
		}
		name, of, _ := strings.Cut(strings.TrimSuffix(strings.TrimPrefix(pick(r, states), "state "), ";"), ": ")
		if form, ok := forms[of]; ok {
			out += strings.ReplaceAll(pick(r, strings.Split(form, "|")), "%", name) + " "
		} else {
			out += "set " + name + " = " + name + "; "
		}
	}
	return out
}

// text writes a program of a version and of such states; upgrade tells what has this name.
func text(r *rand.Rand, version int, states []string) string {
	items := append(slices.Clone(states), "fn up(x: int): int { ret x * 2 + 1; } on go(): int { ret up(1); }")
	switch r.IntN(8) {
	case 0, 1:
	case 2:
		items = append(items, "on upgrade(x: int): int { "+statements(r, states)+"ret x; }")
	case 3:
		items = append(items, "fn upgrade(): int { "+statements(r, states)+"ret 5; }")
	default:
		items = append(items, "on upgrade(): int { "+statements(r, states)+"ret up("+pick(r, strings.Fields("1 2 len(\"abc\")"))+"); }")
	}
	return fmt.Sprintf("version %d; %s", version, strings.Join(items, " "))
}

// anything makes a sound value of any kind, with parts of any kinds within it, so deep at most.
func anything(r *rand.Rand, deep int) api.Value {
	kind := 1 + r.IntN(5)
	if kind > 3 && deep == 0 {
		kind = 1 + r.IntN(3)
	}
	v := api.Value{Kind: kind}
	switch kind {
	case 1:
		return number(pick(r, someNumbers))
	case 2:
		v.Num = r.IntN(2)
	case 3:
		v.Text = pick(r, someTexts)
	case 4:
		for range r.IntN(4) {
			v.List = append(v.List, anything(r, deep-1))
		}
	case 5:
		for range r.IntN(3) {
			v, _ = value.Put(v, anything(r, deep-1), anything(r, deep-1))
		}
	}
	return v
}
