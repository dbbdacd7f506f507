package book

import (
	"bytes"
	"encoding/binary"
	"encoding/hex"
	"fmt"
	"math"
	"math/rand/v2"
	"slices"
	"strconv"
	"strings"
	"testing"

	"quern/api"
	"quern/image"
	"quern/machine"
	"quern/parse"
	"quern/sem"
	"quern/types"
	"quern/value"
)

const least, greatest = math.MinInt, math.MaxInt

func unhex(s string) []byte {
	b, e := hex.DecodeString(strings.ReplaceAll(s, " ", ""))
	if e != nil {
		panic(s)
	}
	return b
}

// Values, as the tables have them: 5, true, "ab", [7, 8], {1: 2}, and none, which is of no kind.

func number(n int) api.Value        { return api.Value{Kind: 1, Num: n} }
func word(s string) api.Value       { return api.Value{Kind: 3, Text: s} }
func list(l ...api.Value) api.Value { return api.Value{Kind: 4, List: l} }

// all reads values.
func all(s string) []api.Value {
	l, rest := part(s + "]")
	if rest != "" {
		panic("no values: " + s)
	}
	return l
}

// part reads values up to a closing bracket, and answers what stands behind it.
func part(s string) (out []api.Value, rest string) {
	for {
		s = strings.TrimLeft(s, " ,:")
		switch s[0] {
		case ']', '}':
			return out, s[1:]
		case '[', '{':
			kind := 4 + strings.Index("[{", s[:1])
			var l []api.Value
			l, s = part(s[1:])
			out = append(out, api.Value{Kind: kind, List: l})
		case '"':
			text, rest, _ := strings.Cut(s[1:], `"`)
			out, s = append(out, word(text)), rest
		default:
			end := strings.IndexAny(s, ",:]} ")
			out, s = append(out, plainWord(s[:end])), s[end:]
		}
	}
}

func plainWord(s string) api.Value {
	if s == "none" {
		return api.Value{}
	}
	if n, err := strconv.Atoi(s); err == nil {
		return number(n)
	}
	return api.Value{Kind: 2, Num: strings.Index("false true", s) / 6}
}

// shown writes a value so, with what its kind doesn't have, or shouldn't, told behind it: two values that are told alike are alike.
func shown(v api.Value) string {
	var s string
	switch v.Kind {
	case 0:
		s = "none"
	case 1:
		s, v.Num = fmt.Sprint(v.Num), 0
	case 2:
		s, v.Num = fmt.Sprint(v.Num != 0), max(v.Num, 1)-1
	case 3:
		s, v.Text = fmt.Sprintf("%q", v.Text), ""
	case 4:
		s, v.List = "["+shownAll(v.List)+"]", nil
	case 5:
		s, v.List = shownPairs(v.List), nil
	default:
		s = fmt.Sprint("kind ", v.Kind)
	}
	if v.Num != 0 || v.Text != "" || len(v.List) > 0 {
		s += fmt.Sprintf("(%d, %q, %s)", v.Num, v.Text, shownAll(v.List))
	}
	return s
}

func shownPairs(l []api.Value) string {
	s := "{"
	for i, v := range l {
		s += []string{", ", ": "}[i%2] + shown(v)
	}
	return strings.Replace(s+"}", "{, ", "{", 1)
}

func shownAll(l []api.Value) string {
	var out []string
	for _, v := range l {
		out = append(out, shown(v))
	}
	return strings.Join(out, ", ")
}

func errorName(e api.Errno) string {
	names := map[api.Errno]string{
		api.OK: "OK", api.ErrArg: "ErrArg", api.ErrNil: "ErrNil", api.ErrLong: "ErrLong", api.ErrForm: "ErrForm",
		api.ErrToken: "ErrToken", api.ErrSyntax: "ErrSyntax", api.ErrDeep: "ErrDeep", api.ErrName: "ErrName", api.ErrTwice: "ErrTwice", api.ErrType: "ErrType", api.ErrMany: "ErrMany", api.ErrPlace: "ErrPlace",
		api.ErrOver: "ErrOver", api.ErrZero: "ErrZero", api.ErrKey: "ErrKey", api.ErrSize: "ErrSize", api.ErrFuel: "ErrFuel", api.ErrCommand: "ErrCommand",
		api.ErrStale: "ErrStale", api.ErrVersion: "ErrVersion", api.ErrOld: "ErrOld",
	}
	if s, ok := names[e]; ok {
		return s
	}
	return fmt.Sprint("error ", int(e))
}

// told is a reply, as the tables have it: a value, or an error, or both, where they shouldn't be both.
func told(r api.Reply) string {
	if r.Err == api.OK {
		return shown(r.Value)
	}
	return strings.TrimSuffix(errorName(r.Err)+" "+shown(r.Value), " none")
}

// tellSessions is sessions as the tables have them: 3.1 = 5, 4.9 = ErrZero.
func tellSessions(l []api.Session) string {
	var out []string
	for _, s := range l {
		out = append(out, fmt.Sprintf("%d.%d = %s", s.Client, s.Seq, told(s.Reply)))
	}
	return strings.Join(out, ", ")
}

// tell is all that a book holds: two that are told alike hold the same.
func tell(b api.Book) string {
	return fmt.Sprintf("%q\n%s\n%s", b.Source, shownAll(b.States), tellSessions(b.Sessions))
}

// Numbers and texts as bytes, word by word; the library knows such numbers too.

func plainNumber(b []byte, n int) []byte { return binary.AppendUvarint(b, uint64(n)) }

func plainNumbers(b []byte, list ...int) []byte {
	for _, n := range list {
		b = plainNumber(b, n)
	}
	return b
}

func counts[T string | []byte | source](b []byte, others T) []byte {
	return append(plainNumber(b, len(others)), others...)
}

// source is bytes that are read without any care for what is wrong with them: whoever reads asks in the end whether what was read has these bytes.
type source []byte

func (s *source) number() int {
	n, size := binary.Uvarint(*s)
	if size <= 0 {
		*s = nil
		return 0
	}
	*s = (*s)[size:]
	return int(n & greatest)
}

func (s *source) counted() source {
	n := min(s.number(), len(*s))
	out := (*s)[:n]
	*s = (*s)[n:]
	return out
}

// plainValue answers layer 9's bytes of a value.
func plainValue(b []byte, v api.Value) []byte {
	switch v.Kind {
	case 1:
		if v.Num < 0 {
			return plainNumbers(b, 1, ^v.Num)
		}
		return plainNumbers(b, 0, v.Num)
	case 2:
		return plainNumber(b, v.Num)
	case 3:
		return counts(b, v.Text)
	}
	b = plainNumber(b, len(v.List)/(v.Kind-3))
	for _, x := range v.List {
		b = plainValue(b, x)
	}
	return b
}

// plainCommand answers the bytes of a command, of whichever handler.
func plainCommand(name string, args ...api.Value) string {
	b := counts(nil, name)
	for _, v := range args {
		b = counts(b, plainValue(nil, v))
	}
	return string(b)
}

// Entries, as the tables have them: do("3.1v2 add(5)") is client 3's command 1, for version 2.

func do(s string) api.Entry {
	head, call, _ := strings.Cut(s, " ")
	client, head, _ := strings.Cut(head, ".")
	seq, version, _ := strings.Cut(head, "v")
	name, args, _ := strings.Cut(strings.TrimSuffix(call, ")"), "(")
	e := raw(plainWord(client).Num, plainWord(seq).Num, plainCommand(name, all(args)...))
	e.Version = plainWord(version).Num
	return e
}

// raw is a command for version 1, of whichever bytes.
func raw(client, seq int, data string) api.Entry {
	return api.Entry{Kind: api.EnCommand, Version: 1, Client: client, Seq: seq, Data: data}
}

// named tells an entry.
func named(e api.Entry) string {
	return fmt.Sprintf("{%d %d %d %d %.300q}", e.Kind, e.Version, e.Client, e.Seq, e.Data)
}

func upgradeTo(src string) api.Entry { return api.Entry{Kind: api.EnUpgrade, Data: src} }

// plain is a book, word by word, whose programs aren't made code.
type plain struct {
	src      string
	prog     api.Prog
	states   []api.Value
	sessions [16]api.Session // the Seq 0: the client has none
}

func plainLoad(src string) (api.Prog, int, api.Errno) {
	p, at, e := parse.Parse(src)
	if e == api.OK {
		p, at, e = types.Check(p)
	}
	return p, at, e
}

func plainNew(src string) (*plain, int, api.Errno) {
	p, at, e := plainLoad(src)
	return &plain{src: src, prog: p, states: sem.Zero(p)}, at, e
}

func (p *plain) copy() *plain {
	other := *p // nothing of it is ever written to, but what is replaced
	return &other
}

func (p *plain) data() api.Book {
	b := api.Book{Source: p.src, States: p.states}
	for _, s := range p.sessions {
		if s.Seq != 0 {
			b.Sessions = append(b.Sessions, s)
		}
	}
	return b
}

// read answers a command of bytes; a command without a name, if they are none.
func (p *plain) read(data string) api.Command {
	s := source(data)
	c := api.Command{Name: string(s.counted())}
	for _, f := range p.prog.Fns {
		if f.Name != c.Name {
			continue
		}
		for _, slot := range f.Params {
			v, e := value.Decode(s.counted(), slot.Type)
			if e != api.OK {
				return api.Command{}
			}
			c.Args = append(c.Args, v)
		}
	}
	if plainCommand(c.Name, c.Args...) != data {
		return api.Command{}
	}
	return c
}

func (p *plain) apply(e api.Entry) api.Reply {
	switch e.Kind {
	case 1:
		return api.Reply{}
	case 2:
		return p.command(e)
	case 3:
		return p.upgrade(e.Data)
	}
	return api.Reply{Err: api.ErrArg}
}

func (p *plain) command(e api.Entry) api.Reply {
	if e.Client < 0 || e.Client > 15 || e.Seq < 1 || e.Seq > 1<<40 {
		return api.Reply{Err: api.ErrArg}
	}
	last := &p.sessions[e.Client]
	if e.Seq == last.Seq {
		return last.Reply
	}
	if e.Seq < last.Seq {
		return api.Reply{Err: api.ErrOld}
	}
	if e.Version != p.prog.Version {
		return api.Reply{Err: api.ErrStale}
	}
	states, o := sem.Call(p.prog, p.states, p.read(e.Data), 4096)
	p.states = states
	*last = api.Session{Client: e.Client, Seq: e.Seq, Reply: api.Reply{Err: o.Err, Value: o.Value}}
	return last.Reply
}

func (p *plain) upgrade(src string) api.Reply {
	next, _, e := plainNew(src)
	if e != api.OK {
		return api.Reply{Err: e}
	}
	if next.prog.Version-p.prog.Version != 1 {
		return api.Reply{Err: api.ErrVersion}
	}
	held := map[[2]string]api.Value{}
	for i, s := range p.prog.States {
		held[[2]string{s.Name, s.Type}] = p.states[i]
	}
	for i, s := range next.prog.States {
		if v, ok := held[[2]string{s.Name, s.Type}]; ok {
			next.states[i] = v
		}
	}
	states, o := sem.Call(next.prog, next.states, api.Command{Name: "upgrade"}, 4096)
	if o.Err == api.ErrCommand {
		o.Err = api.OK // there is no such handler
	}
	if o.Err != api.OK {
		return api.Reply{Err: o.Err}
	}
	p.src, p.prog, p.states = src, next.prog, states
	return api.Reply{Value: o.Value}
}

// Bytes, word by word.

func plainValid(e api.Entry) bool {
	return slices.Contains([]int{1, 2, 3}, e.Kind) && min(e.Version, e.Client, e.Seq) >= 0 && len(e.Data) < 16385
}

func plainEntry(e api.Entry) ([]byte, api.Errno) {
	if !plainValid(e) {
		return nil, api.ErrArg
	}
	return counts(plainNumbers(nil, e.Kind, e.Version, e.Client, e.Seq), e.Data), api.OK
}

func plainReadEntry(b []byte) (api.Entry, api.Errno) {
	s := source(b)
	var e api.Entry
	for _, x := range []*int{&e.Kind, &e.Version, &e.Client, &e.Seq} {
		*x = s.number()
	}
	e.Data = string(s.counted())
	if own, wrong := plainEntry(e); wrong != api.OK || !bytes.Equal(own, b) {
		return api.Entry{}, api.ErrForm
	}
	return e, api.OK
}

// plainImage answers a state's image.
func plainImage(version int, slots []api.Slot, states []api.Value) []byte {
	schema := ""
	for _, s := range slots {
		schema += s.Name + ": " + s.Type + ";\n"
	}
	b := counts(plainNumber(nil, version), schema)
	for _, v := range states {
		b = counts(b, plainValue(nil, v))
	}
	return b
}

func plainSessions(b []byte, l []api.Session) []byte {
	b = plainNumber(b, len(l))
	for _, s := range l {
		b = counts(plainNumbers(b, s.Client, s.Seq, int(s.Reply.Err)), image.Any(s.Reply.Value))
	}
	return b
}

func (p *plain) encode() []byte {
	held := p.data()
	return plainSessions(counts(counts(nil, held.Source), plainImage(p.prog.Version, p.prog.States, held.States)), held.Sessions)
}

// plainDecode answers what the book of bytes holds, or the error.
func plainDecode(b []byte) (api.Book, api.Errno) {
	s := source(b)
	src, states := s.counted(), s.counted()
	held := api.Book{Source: string(src)}
	good, last := true, -1
	for range min(s.number(), 17) { // one more than there may be is enough to be wrong
		x := api.Session{Client: s.number(), Seq: s.number(), Reply: api.Reply{Err: api.Errno(s.number())}}
		v, e := image.ReadAny(s.counted())
		x.Reply.Value = v
		good = good && e == api.OK && x.Client > last && x.Client < 16 && x.Seq > 0 && x.Seq <= 1<<40
		last = x.Client
		held.Sessions = append(held.Sessions, x)
	}
	if !good || !bytes.Equal(plainSessions(counts(counts(nil, src), states), held.Sessions), b) {
		return api.Book{}, api.ErrForm
	}
	m, _, e := machine.Load(held.Source)
	if e != api.OK {
		return api.Book{}, e
	}
	held.States, e = image.Decode(m, states)
	if e != api.OK {
		return api.Book{}, e
	}
	return held, api.OK
}

// Books that are asked along with plain ones.

// pair is a book and the plain one that should be the same.
type pair struct {
	b *Book
	p *plain
}

func made(t *testing.T, src string) pair {
	t.Helper()
	b, at, e := New(src)
	p, _, wrong := plainNew(src)
	if b == nil || at != 0 || e != api.OK || wrong != api.OK {
		t.Fatalf("%s: %s, %s at %d", src, errorName(e), errorName(wrong), at)
	}
	return pair{b, p}
}

func (x pair) copy() pair { return pair{x.b.Copy(), x.p.copy()} }

// same asks that both hold the same.
func (x pair) same(t *testing.T) {
	t.Helper()
	if got, want := tell(x.b.Data()), tell(x.p.data()); got != want {
		t.Fatalf("%.3000s\nnot %.3000s", got, want)
	}
	m := x.b.Machine()
	if v := x.p.prog.Version; x.b.Version() != v || m.Version() != v || !slices.Equal(m.States(), x.p.prog.States) {
		t.Fatalf("version %d, %d; not %d", x.b.Version(), m.Version(), v)
	}
}

// apply asks that both answer the same, and hold the same then; and tells it.
func (x pair) apply(t *testing.T, e api.Entry) string {
	t.Helper()
	before, version := tell(x.b.Data()), x.b.Version()
	got, want := told(x.b.Apply(e)), told(x.p.apply(e))
	if got != want {
		t.Fatalf("%s of %.1000s: %.1000s; not %.1000s", named(e), before, got, want)
	}
	x.same(t)
	if after := tell(x.b.Data()); e.Kind != api.EnCommand && strings.HasPrefix(got, "Err") && after != before {
		t.Fatalf("%s: %s changes %s to %s", named(e), got, before, after)
	}
	if e.Kind != api.EnUpgrade && x.b.Version() != version {
		t.Fatalf("%s: version %d", named(e), x.b.Version())
	}
	return got
}

// Programs, values and entries by chance.

func newRand(seed uint64) *rand.Rand       { return rand.New(rand.NewPCG(18, seed)) }
func pick[T any](r *rand.Rand, list []T) T { return list[r.IntN(len(list))] }

var (
	someTypes   = strings.Fields("int int int bool text text [int] [text] {int:int} {text:int} {text:[int]} {int:{text:text}} [[[int]]]")
	someNumbers = []int{0, 0, 0, 1, 1, 1, 2, 2, 3, 4, 7, 63, 64, 127, 128, 300, 4095, 4096, 4097, -1, -1, -2, -64, -129, 1 << 40, greatest, greatest - 1, least, least + 1}
	someTexts   = []string{"", "", "a", "a", "b", "ab", "\x00\xff", "a key", `"`, strings.Repeat("z", 60), strings.Repeat("y", 127), strings.Repeat("w", 256)}
	// handlers that set a state, which % names, to something made of x, of the state's type
	forms = map[string]string{
		"int": "set % = % * 10 + x;|set % = % - x;|set % = 7 / (% + x);|for i to x { set % = % + i; }|for i to 5 { set % = % + up(x); }|if x > 3 { ret up(x); }", "bool": "set % = !x;|if x { set % = 1 / 0 == 0; }",
		"text": "set % = % + x;|set % = str(len(%)) + x;", "[int]": "set % = push(%, len(x));|set %[0] = x[len(x) - 1];|for i to len(x) { set % = push(%, up(x[i])); }", "[text]": "set % = push(%, x[0]);|set %[len(x)] = \"y\";",
		"{int:int}": "set %[len(x)] = 5;|del %[0];|set %[1] = x[1] + 1;", "{text:int}": "set %[str(len(x))] = 1;|del %[\"a\"];", "{text:[int]}": "set %[\"a\"] = push(%[\"a\"], len(x));",
	}
)

// inner answers the types of a type's places and of what stands there; none of a plain type.
func inner(of string) (place, part string) {
	if of[0] == '[' {
		return "int", of[1 : len(of)-1]
	}
	if of[0] == '{' {
		place, part, _ = strings.Cut(of[1:len(of)-1], ":")
	}
	return place, part
}

// valueOf makes one of a type, with so many parts, or fewer if it were too heavy.
func valueOf(r *rand.Rand, of string, parts int) api.Value {
	v := value.Zero(of)
	place, part := inner(of)
	switch of {
	case "int":
		return number(pick(r, someNumbers))
	case "bool":
		return api.Value{Kind: 2, Num: r.IntN(2)}
	case "text":
		return word(pick(r, someTexts))
	}
	for range parts {
		x, changed := valueOf(r, part, pick(r, []int{0, 1, 2})), v
		if v.Kind == api.VList {
			changed, _ = value.Push(v, x)
		} else {
			changed, _ = value.Put(v, valueOf(r, place, 0), x)
		}
		if value.Fits(changed, of) {
			v = changed
		}
	}
	return v
}

// someSlots makes states of few names, so that two programs have some of the same.
func someSlots(r *rand.Rand) []api.Slot {
	var out []api.Slot
	for _, i := range r.Perm(6)[:r.IntN(5)] {
		out = append(out, api.Slot{Name: "abcdef"[i : i+1], Type: pick(r, someTypes)})
	}
	return out
}

// text writes a program of a version and of such states, with a handler for each.
func text(r *rand.Rand, version int, slots []api.Slot) string {
	src := fmt.Sprintf("version %d; ", version)
	for _, s := range slots {
		src += "state " + s.Name + ": " + s.Type + "; "
	}
	src += "fn up(x: int): int { ret x * 2 + 1; } on go(): text { ret \"gone\"; } "
	for i, s := range slots {
		body := "set % = x;"
		if form := forms[s.Type]; form != "" && r.IntN(3) > 0 {
			body = pick(r, strings.Split(form, "|"))
		}
		src += fmt.Sprintf("on h%d(x: %s): %s { %s ret %s; } ", i, s.Type, s.Type, strings.ReplaceAll(body, "%", s.Name), s.Name)
	}
	body := pick(r, []string{"", "", "ret 1;", "ret up(4);", "for i to 4096 {}", "for i to 4097 {}", "ret 1 / 0;"})
	for _, s := range slots {
		if s.Type == "int" {
			body = "set " + s.Name + " = " + s.Name + " + 1; " + body
		}
	}
	return src + pick(r, []string{"", "on upgrade(): int { " + body + " }", "on upgrade(): int { " + body + " }", "on upgrade(x: int): int {}"})
}

// commandOf makes the bytes of a command, mostly of one of the program's.
func commandOf(r *rand.Rand, p api.Prog) string {
	f := pick(r, p.Fns)
	var args []api.Value
	for _, s := range f.Params {
		args = append(args, valueOf(r, s.Type, pick(r, []int{0, 1, 1, 2, 2, 3, 3, 4, 5, 64})))
	}
	data := plainCommand(f.Name, args...)
	if r.IntN(10) == 0 {
		data = string(spoiledBytes(r, []byte(data)))
	}
	return data
}

// entryFor makes an entry that may come to a book; most of them are done.
func entryFor(r *rand.Rand, p *plain) api.Entry {
	client := pick(r, []int{0, 1, 1, 2, 2, 3, 7, 14, 15})
	last := p.sessions[client].Seq
	e := api.Entry{Kind: 2, Version: p.prog.Version, Client: client, Seq: last + pick(r, []int{0, 1, 1, 1, 1, 1, 2, 5, -1}), Data: commandOf(r, p.prog)}
	switch r.IntN(24) {
	case 0:
		e.Kind = pick(r, []int{1, 1, 0, 4, -1, 5, least, greatest})
	case 1:
		e.Client = pick(r, []int{-1, 16, 17, least, greatest})
	case 2:
		e.Seq = pick(r, []int{0, -1, 1, 1<<40 + 1, least, greatest, 128})
	case 3:
		e.Version += pick(r, []int{-1, 1, 2, least, 5})
	case 4:
		e.Kind, e.Data = 3, spoiledText(r, text(r, p.prog.Version+1, someSlots(r)))
	case 5:
		e.Kind, e.Data = 3, text(r, max(1, p.prog.Version+pick(r, []int{-1, 0, 2})), someSlots(r))
	case 6, 7:
		slots := slices.Clone(p.prog.States)
		r.Shuffle(len(slots), func(i, j int) { slots[i], slots[j] = slots[j], slots[i] })
		e.Kind, e.Data = 3, text(r, p.prog.Version+1, pick(r, [][]api.Slot{slots, slots, someSlots(r), slots[:r.IntN(len(slots)+1)]}))
	}
	return e
}

// spoiledBytes answers bytes with one to three of them others, more or gone.
func spoiledBytes(r *rand.Rand, b []byte) []byte {
	b = slices.Clone(b)
	for range 1 + r.IntN(3) {
		i := r.IntN(len(b) + 1)
		switch r.IntN(6) {
		case 0:
			b = slices.Insert(b, i, byte(r.IntN(3)))
		case 1:
			b = slices.Delete(b, i, min(i+1, len(b)))
		case 2:
			b = b[:r.IntN(len(b)+1)]
		default:
			if i < len(b) {
				b[i] = pick(r, []byte{b[i] + 1, b[i] - 1, b[i] ^ 0x80, 0, 1, 'a', byte(r.IntN(256))})
			}
		}
	}
	return b
}

func spoiledText(r *rand.Rand, s string) string {
	at := r.IntN(len(s))
	return s[:at] + pick(r, []string{"$", "\x00", "x", "true", ";", "}", "{", "int", "\"", "1"}) + s[at+r.IntN(2):]
}
