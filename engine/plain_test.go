package engine

import (
	"encoding/binary"
	"fmt"
	"hash/crc32"
	"math"
	"math/rand/v2"
	"slices"
	"strconv"
	"strings"
	"testing"

	"quern/api"
	"quern/book"
	"quern/disk"
)

const (
	least, greatest = math.MinInt, math.MaxInt
	room            = 1 << 24
)

// Values, as the tables have them: 5, true, "ab", [7, 8], {1: 2}, and none, which is of no kind.

// all reads values.
func all(s string) []api.Value {
	l, rest := part(s + "]")
	if rest != "" {
		panic("no values: " + s)
	}
	return l
}

// part reads values up to a closing bracket, and answers what stands behind it.
func part(s string) (out []api.Value, rest string) {
	for {
		s = strings.TrimLeft(s, " ,:")
		switch s[0] {
		case ']', '}':
			return out, s[1:]
		case '[', '{':
			kind := 4 + strings.Index("[{", s[:1])
			var l []api.Value
			l, s = part(s[1:])
			out = append(out, api.Value{Kind: kind, List: l})
		case '"':
			text, rest, _ := strings.Cut(s[1:], `"`)
			out, s = append(out, api.Value{Kind: 3, Text: text}), rest
		default:
			end := strings.IndexAny(s, ",:]} ")
			out, s = append(out, api.Value{Kind: 1, Num: plainNumber(s[:end])}), s[end:]
		}
	}
}

func plainNumber(s string) int {
	n, err := strconv.Atoi(s)
	if err != nil {
		panic("no number: " + s)
	}
	return n
}

// shown writes a value so, with what its kind doesn't have told behind it: two values that are told alike are alike.
func shown(v api.Value) string {
	var s string
	switch v.Kind {
	case 0:
		s = "none"
	case 1:
		s, v.Num = fmt.Sprint(v.Num), 0
	case 3:
		s, v.Text = fmt.Sprintf("%q", v.Text), ""
	case 4:
		s, v.List = "["+shownAll(v.List)+"]", nil
	case 5:
		for i, x := range v.List {
			s += []string{", ", ": "}[i%2] + shown(x)
		}
		s, v.List = strings.Replace("{"+s+"}", "{, ", "{", 1), nil
	default:
		s = fmt.Sprint("kind ", v.Kind)
	}
	if v.Num != 0 || v.Text != "" || len(v.List) > 0 {
		s += fmt.Sprintf("(%d, %q, %s)", v.Num, v.Text, shownAll(v.List))
	}
	return s
}

func shownAll(l []api.Value) string {
	var out []string
	for _, v := range l {
		out = append(out, shown(v))
	}
	return strings.Join(out, ", ")
}

func errorName(e api.Errno) string {
	names := map[api.Errno]string{
		api.OK: "OK", api.ErrArg: "ErrArg", api.ErrNil: "ErrNil", api.ErrLong: "ErrLong", api.ErrForm: "ErrForm", api.ErrDown: "ErrDown", api.ErrFile: "ErrFile", api.ErrFull: "ErrFull",
		api.ErrToken: "ErrToken", api.ErrSyntax: "ErrSyntax", api.ErrDeep: "ErrDeep", api.ErrName: "ErrName", api.ErrTwice: "ErrTwice", api.ErrType: "ErrType", api.ErrMany: "ErrMany", api.ErrPlace: "ErrPlace",
		api.ErrOver: "ErrOver", api.ErrZero: "ErrZero", api.ErrKey: "ErrKey", api.ErrSize: "ErrSize", api.ErrFuel: "ErrFuel", api.ErrCommand: "ErrCommand",
		api.ErrStale: "ErrStale", api.ErrVersion: "ErrVersion", api.ErrOld: "ErrOld",
	}
	if s, ok := names[e]; ok {
		return s
	}
	return fmt.Sprint("error ", int(e))
}

// told is what Propose answers, as the tables have it: a value; or the reply's error; or, with an ! behind, that of the call.
func told(r api.Reply, e api.Errno) string {
	s := shown(r.Value)
	if r.Err != api.OK {
		s = strings.TrimSuffix(errorName(r.Err)+" "+s, " none")
	}
	if e == api.OK {
		return s
	}
	return strings.TrimSuffix(errorName(e)+"! "+s, " none")
}

// people is sessions as the tables have them: 3.1 = 5, 4.9 = ErrZero.
func people(l []api.Session) string {
	var out []string
	for _, s := range l {
		out = append(out, fmt.Sprintf("%d.%d = %s", s.Client, s.Seq, told(s.Reply, api.OK)))
	}
	return strings.Join(out, ", ")
}

// tell is all that a book holds: two that are told alike hold the same.
func tell(b api.Book) string {
	return fmt.Sprintf("%q\n%s\n%s", b.Source, shownAll(b.States), people(b.Sessions))
}

// Programs.

const adder = "version 1; state n: int; on add(x: int): int { set n = n + x; ret n; }"

// wide answers a program of a version, with a handler for each way in which a command may end; its upgrade traps in the long run.
func wide(version int) string {
	return fmt.Sprintf(`version %d; state n: int; state t: text; state l: [text]; state m: {text:[int]};
		on add(x: int): int { set n = n + x; ret n; } on div(x: int): int { set n = 7; ret 1 / x; } on spin(k: int): int { for i to k { set n = n + 1; } ret n; }
		on at(k: text): [int] { set n = 8; ret m[k]; } on put(k: text, x: [int]): {text:[int]} { set m[k] = x; ret m; } on say(x: text): text { set t = t + x; ret t; }
		on keep(x: text): [text] { set l = push(l, x); ret l; } on upgrade(): [text] { set n = n * 10; set t = t + "v"; ret push(l, t); }`, version)
}

// Entries, as the tables have them: do("3.1v2 add(5)") is client 3's command 1, for version 2.

func do(s string) api.Entry {
	head, call, _ := strings.Cut(s, " ")
	client, head, _ := strings.Cut(head, ".")
	seq, version, _ := strings.Cut(head, "v")
	name, args, _ := strings.Cut(strings.TrimSuffix(call, ")"), "(")
	data := counts(nil, name)
	for _, v := range all(args) {
		data = counts(data, plainValue(nil, v))
	}
	return api.Entry{Kind: api.EnCommand, Version: plainNumber(version), Client: plainNumber(client), Seq: plainNumber(seq), Data: string(data)}
}

func upgradeTo(src string) api.Entry { return api.Entry{Kind: api.EnUpgrade, Data: src} }

// adds answers so many of client 1's commands, add(1) each, from a number on.
func adds(from, n int) []api.Entry {
	var out []api.Entry
	for i := range n {
		out = append(out, do(fmt.Sprintf("1.%dv1 add(1)", from+i)))
	}
	return out
}

func named(e api.Entry) string {
	return fmt.Sprintf("{%d %d %d %d %.300q}", e.Kind, e.Version, e.Client, e.Seq, e.Data)
}

// Bytes, word by word; the library knows such numbers and sums too.

func numbers(b []byte, list ...int) []byte {
	for _, n := range list {
		b = binary.AppendUvarint(b, uint64(n))
	}
	return b
}

func counts[T string | []byte](b []byte, others T) []byte {
	return append(numbers(b, len(others)), others...)
}

// plainValue answers layer 9's bytes of a value that is no truth.
func plainValue(b []byte, v api.Value) []byte {
	switch v.Kind {
	case 1:
		return numbers(b, v.Num>>63&1, v.Num^v.Num>>63)
	case 3:
		return counts(b, v.Text)
	}
	b = numbers(b, len(v.List)/(v.Kind-3))
	for _, x := range v.List {
		b = plainValue(b, x)
	}
	return b
}

// plainEntry answers a record's bytes; false: there can be none of this entry.
func plainEntry(e api.Entry) ([]byte, bool) {
	if !slices.Contains([]int{1, 2, 3}, e.Kind) || min(e.Version, e.Client, e.Seq) < 0 || len(e.Data) > 16384 {
		return nil, false
	}
	return counts(numbers(nil, e.Kind, e.Version, e.Client, e.Seq), e.Data), true
}

// words answers 32-bit numbers as bytes, the lowest first.
func words(list ...uint32) string {
	var b []byte
	for _, x := range list {
		b = binary.LittleEndian.AppendUint32(b, x)
	}
	return string(b)
}

func frame(record string) string {
	return words(uint32(len(record)), crc32.ChecksumIEEE([]byte(record))) + record
}

// segment answers the frames of entries.
func segment(list ...api.Entry) string {
	s := ""
	for _, e := range list {
		b, ok := plainEntry(e)
		if !ok {
			panic("no entry: " + named(e))
		}
		s += frame(string(b))
	}
	return s
}

// records answers how many a segment's bytes have, and what stands behind them.
func records(b string) (n int, rest string) {
	for len(b) >= 8 {
		size := int(binary.LittleEndian.Uint32([]byte(b)))
		if size > len(b)-8 || frame(b[8:8+size]) != b[:8+size] {
			break
		}
		n, b = n+1, b[8+size:]
	}
	return n, b
}

// snapshot answers a snapshot's bytes.
func snapshot(n int, body string) string {
	head := words(uint32(n), uint32(len(body)))
	return head + words(crc32.ChecksumIEEE([]byte(head+body))) + body
}

// bookOf answers the bytes of a book that did such entries.
func bookOf(src string, list ...api.Entry) string {
	b, e := behind(src, list).Encode()
	if e != api.OK {
		panic(errorName(e))
	}
	return string(b)
}

// behind answers a book that did such entries, and never was saved.
func behind(src string, list []api.Entry) *book.Book {
	b, _, e := book.New(src)
	if e != api.OK {
		panic(errorName(e))
	}
	for _, e := range list {
		b.Apply(e)
	}
	return b
}

// name answers that of a segment (j) or a snapshot (s).
func name(letter string, n int) string { return fmt.Sprintf("%s%09d", letter, n) }

// with answers a disk with these files, name and bytes in turn, all of them safe.
func with(files ...string) *disk.Disk {
	d := disk.New(room)
	for i := 0; i < len(files); i += 2 {
		if d.Append(files[i], []byte(files[i+1])) != api.OK || d.Sync(files[i]) != api.OK {
			panic("no file: " + files[i])
		}
	}
	return d
}

// files tells a disk's, as name and bytes in turn; its power is on.
func files(d *disk.Disk) []string {
	var out []string
	for _, name := range d.Names() {
		b, _ := d.Read(name)
		out = append(out, name, string(b))
	}
	return out
}

// look tells all of a disk that can be seen.
func look(d *disk.Disk) string { return fmt.Sprintf("%q %v %d", files(d), d.Down(), d.Writes()) }

// plain is an engine word by word, in another shape: it keeps a list of all entries, and a book that never was saved; its disk's files it writes itself, by raw writes alone, and reads of them only how many records there are.
type plain struct {
	d       *disk.Disk
	src     string
	per     int
	entries []api.Entry
	way     []api.Entry // the one in which the power went
	book    *book.Book
	ended   bool
}

// write is one raw write.
type write func() api.Errno

// run makes raw writes up to the first error.
func run(l ...write) api.Errno {
	for _, w := range l {
		if e := w(); e != api.OK {
			return e
		}
	}
	return api.OK
}

// numbered answers the numbers of the files of a letter, rising.
func (p *plain) numbered(letter string) []int {
	var out []int
	for _, s := range p.d.Names() {
		if strings.HasPrefix(s, letter) {
			out = append(out, plainNumber(s[1:]))
		}
	}
	return out
}

func (p *plain) open(per int) api.Errno {
	if p.d.Down() {
		return api.ErrDown
	}
	count := 0
	for _, n := range p.numbered("j") {
		s := name("j", n)
		b, _ := p.d.Read(s)
		has, rest := records(string(b))
		l := []write{func() api.Errno { return p.d.Sync(s) }}
		if rest != "" {
			l = slices.Insert(l, 0, func() api.Errno { return p.d.Truncate(s, len(b)-len(rest)) })
		}
		if e := run(l...); e != api.OK {
			return e
		}
		count = n + has - 1
	}
	if count == len(p.entries)+1 {
		p.entries = append(p.entries, p.way...)
	}
	if count != len(p.entries) {
		panic(fmt.Sprint("entries: ", count, ", ", len(p.entries)))
	}
	p.per, p.way, p.ended = per, nil, false
	p.book = behind(p.src, p.entries)
	return api.OK
}

func (p *plain) propose(e api.Entry) (api.Reply, api.Errno) {
	b, ok := plainEntry(e)
	if !ok {
		return api.Reply{}, api.ErrArg
	}
	if p.ended || p.d.Down() {
		return api.Reply{}, api.ErrDown
	}
	next := len(p.entries) + 1
	last := slices.Max(append(p.numbered("j"), 0))
	if last == 0 || next-last >= p.per {
		last = next
	}
	s := name("j", last)
	wrong := run(func() api.Errno { return p.d.Append(s, []byte(frame(string(b)))) }, func() api.Errno { return p.d.Sync(s) })
	switch wrong {
	case api.OK:
		p.entries = append(p.entries, e)
		return p.book.Apply(e), api.OK
	case api.ErrDown:
		p.ended, p.way = true, []api.Entry{e}
		return api.Reply{}, wrong
	}
	return api.Reply{}, api.ErrFull
}

func (p *plain) save() api.Errno {
	if p.ended || p.d.Down() {
		return api.ErrDown
	}
	remove := func(s string) write { return func() api.Errno { return p.d.Remove(s) } }
	var l []write
	if slices.Contains(p.d.Names(), "draft") {
		l = append(l, remove("draft"))
	}
	count := len(p.entries)
	b, _ := p.book.Encode()
	l = append(l,
		func() api.Errno { return p.d.Append("draft", []byte(snapshot(count, string(b)))) },
		func() api.Errno { return p.d.Sync("draft") },
		func() api.Errno { return p.d.Rename("draft", name("s", count)) })
	for _, n := range p.numbered("s") {
		if n != count {
			l = append(l, remove(name("s", n)))
		}
	}
	firsts := p.numbered("j")
	for i := 1; i < len(firsts) && firsts[i] <= count+1; i++ {
		l = append(l, remove(name("j", firsts[i-1])))
	}
	e := run(l...)
	p.ended = e == api.ErrDown
	return e
}

// Engines that are asked along with plain ones, each over a disk of its own.

type twin struct {
	d *disk.Disk
	g *Engine
	p *plain
}

func made(t *testing.T, src string, per int) *twin {
	t.Helper()
	x := &twin{disk.New(room), nil, &plain{d: disk.New(room), src: src}}
	if e := x.open(t, src, per); e != api.OK {
		t.Fatal(errorName(e))
	}
	return x
}

// both does something to both disks.
func (x *twin) both(f func(d *disk.Disk)) {
	f(x.d)
	f(x.p.d)
}

// same asks that both hold the same, on the same disks.
func (x *twin) same(t *testing.T) {
	t.Helper()
	if got, want := look(x.d), look(x.p.d); got != want {
		t.Fatalf("disk: %.3000s\nnot %.3000s", got, want)
	}
	if x.g == nil {
		return
	}
	want, entries := tell(x.p.book.Data()), len(x.p.entries)
	if got, n := tell(x.g.Data()), x.g.Count(); got != want || n != entries {
		t.Fatalf("%d: %.3000s\nnot %d: %.3000s", n, got, entries, want)
	}
	if b := x.g.Book(); tell(b.Data()) != want || b.Version() != x.p.book.Version() {
		t.Fatalf("Book: %.3000s\nnot %.3000s", tell(b.Data()), want)
	}
}

// open opens both anew: what was asked of the disk ahead of it is no more.
func (x *twin) open(t *testing.T, src string, per int) api.Errno {
	t.Helper()
	g, e := Open(x.d, src, per)
	if want := x.p.open(per); e != want || (g != nil) != (e == api.OK) {
		t.Fatalf("Open: %v, %s; not %s", g != nil, errorName(e), errorName(want))
	}
	x.g = g
	x.same(t)
	return e
}

// propose asks that both answer the same, and hold the same then; and tells it.
func (x *twin) propose(t *testing.T, e api.Entry) string {
	t.Helper()
	before, count := tell(x.g.Data()), x.g.Count()
	got, want := told(x.g.Propose(e)), told(x.p.propose(e))
	if got != want {
		t.Fatalf("%s of %.1000s: %.1000s; not %.1000s", named(e), before, got, want)
	}
	x.same(t)
	if strings.Contains(got, "!") && (tell(x.g.Data()) != before || x.g.Count() != count) {
		t.Fatalf("%s: %s changes %d, %.1000s", named(e), got, count, before)
	}
	return got
}

func (x *twin) save(t *testing.T) api.Errno {
	t.Helper()
	before, count := tell(x.g.Data()), x.g.Count()
	got, want := x.g.Save(), x.p.save()
	if got != want {
		t.Fatalf("Save: %s; not %s", errorName(got), errorName(want))
	}
	x.same(t)
	if tell(x.g.Data()) != before || x.g.Count() != count {
		t.Fatalf("Save changes %d, %.1000s", count, before)
	}
	return got
}

// Entries by chance.

func newRand(seed uint64) *rand.Rand       { return rand.New(rand.NewPCG(19, seed)) }
func pick[T any](r *rand.Rand, list []T) T { return list[r.IntN(len(list))] }

// someCalls are ones of each way in which a command may end.
var someCalls = []string{
	"add(1)", "add(2)", "add(5)", "add(-3)", "add(300)", "add(9223372036854775807)", "div(0)", "div(1)", "spin(9)", "spin(4097)", `at("a")`, `at("b")`, `put("a", [1, 2])`, `put("b", [])`, `put("", [-1])`,
	`say("x")`, `say("yz")`, `say("` + strings.Repeat("z", 100) + `")`, `keep("k")`, `keep("` + strings.Repeat("l", 40) + `")`, "none()", "add()", "add(1, 2)", `add("a")`,
}

// entryFor makes an entry for a book by chance: of each kind, right, stale, old, come again, refused, and ones that can't stand in a log.
func entryFor(r *rand.Rand, b *book.Book) api.Entry {
	version, held := b.Version(), b.Data()
	switch r.IntN(16) {
	case 0:
		return api.Entry{Kind: api.EnNone, Version: r.IntN(3), Client: r.IntN(20), Data: pick(r, []string{"", "data"})}
	case 1, 2:
		return upgradeTo(wide(version + 1))
	case 3:
		return upgradeTo(pick(r, []string{wide(version), wide(version + 2), "", "?", "version 0;", fmt.Sprintf("version %d; on upgrade(): int { ret 1 / 0; }", version+1)}))
	case 4:
		return pick(r, []api.Entry{{}, {Kind: 4}, {Kind: -1}, {Kind: 1, Version: -1}, {Kind: 2, Client: -1}, {Kind: 3, Seq: -1}, {Kind: 3, Data: strings.Repeat("#", 16385)}})
	}
	e := do(fmt.Sprintf("%d.1v%d %s", r.IntN(4), version, pick(r, someCalls)))
	for _, s := range held.Sessions {
		if s.Client == e.Client {
			e.Seq = s.Seq + pick(r, []int{1, 1, 1, 1, 1, 1, 2, 100, 0, -1})
		}
	}
	switch r.IntN(20) {
	case 0:
		e.Version = max(version+r.IntN(3)-1, 0)
	case 1:
		e.Client = 16
	case 2:
		e.Data = pick(r, []string{"", "\xff", e.Data + "x"})
	}
	return e
}
