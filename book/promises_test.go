package book

import (
	"bytes"
	"cmp"
	"fmt"
	"math/rand/v2"
	"slices"
	"strings"
	"sync"
	"testing"
	"unsafe"

	"quern/api"
)

// P18.1, by chance.

// random makes a book of a program by chance.
func random(t *testing.T, r *rand.Rand) pair {
	t.Helper()
	return made(t, text(r, pick(r, []int{1, 1, 2, 126, 127, 1<<40 - 3}), someSlots(r)))
}

func TestRandomHistories(t *testing.T) {
	r := newRand(2)
	seen, upgrades := map[string]int{}, 0
	for range 400 {
		x := random(t, r)
		x.same(t)
		for range 60 {
			e := entryFor(r, x.p)
			got := x.apply(t, e)
			if e.Kind == api.EnUpgrade && !strings.HasPrefix(got, "Err") {
				upgrades++
			}
			if !strings.HasPrefix(got, "Err") {
				got = "a value"
			}
			seen[got]++
		}
		if !x.b.Machine().Fits(x.b.Data().States) {
			t.Fatalf("%.1000s: no state", tell(x.b.Data()))
		}
	}
	for _, s := range strings.Fields("ErrArg ErrOld ErrStale ErrVersion ErrCommand ErrOver ErrZero ErrKey ErrSize ErrFuel ErrSyntax ErrToken") {
		if seen[s] < 25 {
			t.Errorf("%s: too few: %v", s, seen)
		}
	}
	if seen["a value"] < 5000 || upgrades < 300 {
		t.Error(upgrades, seen)
	}
}

func TestRandomEntries(t *testing.T) {
	r := newRand(3)
	are := map[bool]int{}
	for range 400 {
		x := random(t, r)
		for range 20 {
			e := entryFor(r, x.p)
			wantEntry(t, e)
			b, _ := Entry(e)
			are[wantRead(t, b)]++
			for range 5 {
				are[wantRead(t, spoiledBytes(r, b))]++
			}
			x.apply(t, e)
		}
	}
	if are[true] < 5000 || are[false] < 5000 {
		t.Error(are)
	}
}

// P18.2

// Each command comes again right behind itself, and again when others' came meanwhile, and upgrades.
func TestOnce(t *testing.T) {
	type known struct {
		e    api.Entry
		told string
	}
	r := newRand(4)
	again, refused := 0, 0
	for range 100 {
		x := random(t, r)
		last := map[int]known{} // of each client what it sent last
		for range 40 {
			if e := entryFor(r, x.p); e.Kind != api.EnUpgrade {
				got := x.apply(t, e)
				before := tell(x.b.Data())
				if more := x.apply(t, e); more != got || tell(x.b.Data()) != before {
					t.Fatalf("%s: %.500s; then %.500s", named(e), got, more)
				}
				if e.Kind == api.EnCommand && got != "ErrStale" {
					last[e.Client] = known{e, got}
				} else if e.Kind == api.EnCommand {
					delete(last, e.Client) // it is none of the program's yet, but may be by and by
				}
			} else {
				x.apply(t, e)
			}
			before := tell(x.b.Data())
			for _, k := range last {
				if more := x.apply(t, k.e); more != k.told || tell(x.b.Data()) != before {
					t.Fatalf("%s: %.500s; now %.500s", named(k.e), k.told, more)
				}
				again++
				if strings.HasPrefix(k.told, "Err") {
					refused++
				}
			}
		}
	}
	if again < 10000 || refused < 1500 {
		t.Error(again, refused)
	}
}

// P18.3

func TestThereAndBack(t *testing.T) {
	r := newRand(5)
	seen := map[api.Errno]int{}
	for range 150 {
		x := random(t, r)
		for range 30 {
			x.apply(t, entryFor(r, x.p))
			b, e := x.b.Encode()
			if want := x.p.encode(); !bytes.Equal(b, want) || e != api.OK {
				t.Fatalf("%.1000s: %.1000x, %d; not %.1000x", tell(x.b.Data()), b, e, want)
			}
			back, e := Decode(b)
			if e != api.OK || tell(back.Data()) != tell(x.b.Data()) {
				t.Fatalf("%.1000s: %d, %.1000s", tell(x.b.Data()), e, tell(back.Data()))
			}
			other := pair{back, x.p.copy()}
			for range 3 { // both go on the same: what the one is asked, the plain one is
				other.apply(t, entryFor(r, other.p))
			}
			for range 3 {
				seen[wantBook(t, spoiledBytes(r, b))]++
			}
			if r.IntN(4) == 0 {
				x = other
			}
		}
	}
	if seen[api.OK] < 300 || seen[api.ErrForm] < 3000 || seen[api.ErrToken] < 300 || seen[api.ErrSyntax] < 300 || seen[api.ErrVersion] < 50 {
		t.Error(seen)
	}
}

// What was decoded and has no value that a command would answer goes on as well.
func TestOtherReplies(t *testing.T) {
	for s, want := range map[string]string{"00 02 0207": "true(6, \"\", )", "00 01 00": "none", "7f 01 00": "error 127", "33 03 010005": "ErrZero 5", "00 03 040100": "[none]"} {
		x := unhex(emptyHex + fmt.Sprintf("01 05 09 %s", s))
		b, e := Decode(x)
		if e != api.OK {
			t.Fatalf("%s: %s", s, errorName(e))
		}
		if got := told(b.Apply(raw(5, 9, ""))); got != want {
			t.Errorf("%s: %s; not %s", s, got, want)
		}
		if got := told(b.Apply(raw(5, 8, ""))); got != "ErrOld" {
			t.Errorf("%s: %s", s, got)
		}
		if back, e := b.Encode(); !bytes.Equal(back, x) || e != api.OK {
			t.Errorf("%s: %x, %d", s, back, e)
		}
		if got := told(b.Apply(raw(5, 10, ""))); got != "ErrCommand" || tellSessions(b.Data().Sessions) != "5.10 = ErrCommand" {
			t.Errorf("%s: %s, %s", s, got, tellSessions(b.Data().Sessions))
		}
	}
}

// P18.4

// A copy and its book know nothing of one another.
func TestCopies(t *testing.T) {
	r := newRand(6)
	for range 100 {
		l := []pair{random(t, r)}
		for range 60 {
			x := pick(r, l)
			x.apply(t, entryFor(r, x.p))
			if len(l) < 6 && r.IntN(6) == 0 {
				l = append(l, x.copy())
			}
			for _, other := range l {
				other.same(t)
			}
		}
	}
}

// A book and its copies, each one asked in a goroutine of its own.
func TestCopiesAtOneTime(t *testing.T) {
	x := made(t, wide)
	x.apply(t, do(`1.1v1 put("k", [1, 2])`))
	var books []*Book
	for range 8 {
		books = append(books, x.b.Copy())
	}
	var done sync.WaitGroup
	for i, b := range books {
		done.Go(func() {
			for n := range 50 {
				b.Apply(do(fmt.Sprintf("%d.%dv1 add(%d)", i, n+2, i)))
				b.Apply(do(fmt.Sprintf(`%d.1v1 say("a")`, i+8)))
				b.Data()
				b.Encode()
				b.Copy().Apply(upgradeTo("version 2; state n: int;"))
			}
		})
	}
	done.Wait()
	x.same(t)
	for i, b := range books {
		if got := shownAll(b.Data().States); got != fmt.Sprintf(`%d, "a", [], {"k": [1, 2]}`, 50*i) || b.Version() != 1 {
			t.Errorf("book %d: %s", i, got)
		}
	}
}

// span is the memory that something has.
type span struct{ from, to uintptr }

func listSpan[T any](l []T) span {
	var one T
	from := uintptr(unsafe.Pointer(unsafe.SliceData(l)))
	return span{from, from + uintptr(cap(l))*unsafe.Sizeof(one)}
}

// textSpan leaves out texts of one byte: the language's own memory has each of them once, and nobody can write there.
func textSpan(s string) span {
	if len(s) < 2 {
		return span{}
	}
	from := uintptr(unsafe.Pointer(unsafe.StringData(s)))
	return span{from, from + uintptr(len(s))}
}

// valueSpans answers the memory of values, in all their depths, but for the list in which they stand.
func valueSpans(l ...api.Value) []span {
	var out []span
	for _, v := range l {
		out = append(out, textSpan(v.Text), listSpan(v.List))
		out = append(out, valueSpans(v.List...)...)
	}
	return out
}

func bookSpans(b api.Book) []span {
	out := append(valueSpans(b.States...), textSpan(b.Source), listSpan(b.States), listSpan(b.Sessions))
	for _, s := range b.Sessions {
		out = append(out, valueSpans(s.Reply.Value)...)
	}
	return out
}

// share tells whether two of these have a byte in common.
func share(l []span) bool {
	l = slices.DeleteFunc(slices.Clone(l), func(s span) bool { return s.from == s.to })
	slices.SortFunc(l, func(a, b span) int { return cmp.Compare(a.from, b.from) })
	for i := 1; i < len(l); i++ {
		if l[i-1].to > l[i].from {
			return true
		}
	}
	return false
}

// owner makes arguments in memory of its own, bytes with spare room in which something stands, and texts that can be written over.
type owner struct{ parts [][]byte }

func (o *owner) bytes(b []byte) []byte {
	own := append(slices.Clone(b), 99, 99)
	o.parts = append(o.parts, own[:cap(own)])
	return own[:len(b)]
}

func (o *owner) text(s string) string {
	return unsafe.String(unsafe.SliceData(o.bytes([]byte(s))), len(s))
}

func (o *owner) entry(e api.Entry) api.Entry {
	e.Data = o.text(e.Data)
	return e
}

// all answers all that the arguments hold, spare room included.
func (o *owner) all() string { return string(slices.Concat(o.parts...)) }

func (o *owner) spans() []span {
	var out []span
	for _, b := range o.parts {
		out = append(out, listSpan(b))
	}
	return out
}

func (o *owner) wipe() {
	for _, b := range o.parts {
		clear(b)
	}
}

func wipe(l []api.Value) {
	for _, v := range l {
		wipe(v.List)
	}
	clear(l[:cap(l)])
}

// answer is what a call answered: its memory, what it is by now, what writes over it. What is a book isn't written over: it goes on by itself.
type answer struct {
	spans []span
	tell  func() string
	wipe  func()
}

func bookAnswer(b *Book, more ...any) answer {
	var spans []span
	if b != nil {
		spans = bookSpans(b.held)
	}
	return answer{spans, func() string { return fmt.Sprint(tell(b.Data()), b.Version(), more) }, func() {}}
}

func bytesAnswer(b []byte, e api.Errno) answer {
	return answer{[]span{listSpan(b)}, func() string { return fmt.Sprint(b, e) }, func() { clear(b[:cap(b)]) }}
}

func dataAnswer(d api.Book) answer {
	return answer{bookSpans(d), func() string { return tell(d) }, func() {
		wipe(d.States)
		for _, s := range d.Sessions {
			wipe(s.Reply.Value.List)
		}
		clear(d.Sessions[:cap(d.Sessions)])
	}}
}

// asked is a call of a book, whose arguments the owner makes; it says ready when they are made.
type asked func(b *Book, o *owner, ready func()) answer

// calls answers each call, with an entry, a text, an entry's bytes and a book's.
func calls(e api.Entry, src string, x, y []byte) []asked {
	return []asked{
		func(b *Book, o *owner, ready func()) answer {
			e := o.entry(e)
			ready()
			r := b.Apply(e)
			return answer{valueSpans(r.Value), func() string { return told(r) }, func() { wipe(r.Value.List) }}
		},
		func(b *Book, o *owner, ready func()) answer { return dataAnswer(b.Data()) },
		func(b *Book, o *owner, ready func()) answer { return bookAnswer(b.Copy()) },
		func(b *Book, o *owner, ready func()) answer { return bytesAnswer(b.Encode()) },
		func(b *Book, o *owner, ready func()) answer {
			e := o.entry(e)
			ready()
			return bytesAnswer(Entry(e))
		},
		func(b *Book, o *owner, ready func()) answer {
			e := o.entry(e)
			ready()
			is := Valid(e)
			return answer{nil, func() string { return fmt.Sprint(is) }, func() {}}
		},
		func(b *Book, o *owner, ready func()) answer {
			src := o.text(src)
			ready()
			own, at, e := New(src)
			return bookAnswer(own, at, e)
		},
		func(b *Book, o *owner, ready func()) answer {
			x := o.bytes(x)
			ready()
			e, wrong := ReadEntry(x)
			return answer{[]span{textSpan(e.Data)}, func() string { return fmt.Sprint(named(e), wrong) }, func() {}}
		},
		func(b *Book, o *owner, ready func()) answer {
			y := o.bytes(y)
			ready()
			own, e := Decode(y)
			return bookAnswer(own, e)
		},
	}
}

// wantNew asks for P18.4 of each of these calls of a book, each one twice: what was handed in is the same behind it; nothing shares memory, nor with the book; what was handed in and answered is written over then, and all else stays as it was.
func wantNew(t *testing.T, b *Book, l []asked) {
	t.Helper()
	for i, ask := range l {
		b, like := b.Copy(), b.Copy()
		var own owner
		var answers []answer
		var wants []string
		for range 2 {
			held := ""
			answers = append(answers, ask(b, &own, func() { held = own.all() }))
			if held != "" && own.all() != held {
				t.Fatalf("call %d: what was handed in is changed", i)
			}
			wants = append(wants, ask(like, &owner{}, func() {}).tell())
		}
		spans := slices.Concat(own.spans(), answers[0].spans, answers[1].spans)
		if b != nil {
			spans = append(spans, bookSpans(b.held)...)
		}
		if share(spans) {
			t.Fatalf("call %d: memory is shared: %.500s", i, wants[0])
		}
		own.wipe()
		for j, a := range answers {
			if got := a.tell(); got != wants[j] {
				t.Fatalf("call %d: %.500s; not %.500s", i, got, wants[j])
			}
			a.wipe()
		}
		if got, want := tell(b.Data()), tell(like.Data()); got != want || b.Version() != like.Version() {
			t.Fatalf("call %d: the book is %.500s; not %.500s", i, got, want)
		}
		m, n := b.Machine(), like.Machine()
		if m.Version() != n.Version() || !slices.Equal(m.States(), n.States()) || !m.Fits(b.Data().States) && m != nil {
			t.Fatalf("call %d: its machine is another one", i)
		}
	}
}

func TestNewMemory(t *testing.T) {
	x := made(t, wide)
	for _, s := range []string{`1.1v1 put("a key", [1, 2])`, `2.1v1 say("a text")`, `3.1v1 keep("an element")`, `4.1v1 keep("another")`, "5.1v1 div(0)", `6.1v1 put("second", [])`} {
		x.apply(t, do(s))
	}
	second := "version 2; state m: {text:[int]}; state t: text; on upgrade(): [int] { ret m[\"none\"]; }"
	right := "version 2; state m: {text:[int]}; state t: text; state o: text; on upgrade(): text { let a = \"a constant\"; set o = a; ret a; } on say(x: text): text { set t = t + x; ret o; }"
	some := []api.Entry{
		{Kind: 1, Data: "some data"}, {Kind: 4, Data: "some data"}, do(`7.1v1 put("third", [3])`), do(`3.1v1 keep("an element")`), do(`1.2v1 at("a key")`), do("3.2v1 div(0)"), do(`3.2v2 say("a text")`), do("3.2v1 nothing()"), do(`3.2v1 say("a text")`), raw(16, 1, "some data"),
		upgradeTo(right), upgradeTo(second), upgradeTo("version 3;"), upgradeTo("version 2; on upgrade(): int { ret 1 / 0; }"), {Kind: 2, Seq: -1, Data: "some data"}, raw(9, 9, strings.Repeat("a", 16385)),
	}
	for _, e := range some {
		a, _ := plainEntry(e)
		for _, b := range []*Book{x.b, nil, applied(x.b.Copy(), upgradeTo(right), do(`8.1v2 say("a text")`))} {
			y, _ := x.b.Encode()
			for _, src := range []string{wide, right, second, ""} {
				wantNew(t, b, calls(e, src, a, y))
			}
			wantNew(t, b, calls(e, "", append(a, 0), y[1:]))
		}
	}
	r := newRand(7)
	for range 100 {
		x := random(t, r)
		for range 10 {
			e, src := entryFor(r, x.p), text(r, 1, someSlots(r))
			a, _ := Entry(e)
			y, _ := x.b.Encode()
			if r.IntN(3) == 0 {
				a, y, src = spoiledBytes(r, a), spoiledBytes(r, y), spoiledText(r, src)
			}
			wantNew(t, x.b, calls(e, src, a, y))
			x.apply(t, e)
		}
	}
}

// What an entry was answered stays, whatever is written over it and over what is answered once more.
func TestAnsweredAgain(t *testing.T) {
	x := made(t, wide)
	e := do(`1.1v1 put("k", [1, 2])`)
	for range 3 {
		r := x.b.Apply(e)
		if told(r) != `{"k": [1, 2]}` {
			t.Fatal(told(r))
		}
		wipe(r.Value.List)
		d := x.b.Data()
		wipe(d.States)
		wipe(d.Sessions[0].Reply.Value.List)
		clear(d.Sessions)
	}
	if got := tell(x.b.Data()); got != fmt.Sprintf("%q\n%s\n%s", wide, `0, "", [], {"k": [1, 2]}`, `1.1 = {"k": [1, 2]}`) {
		t.Error(got)
	}
}

// What is answered hangs on what the book holds alone: whatever other books are asked meanwhile, in whichever order.
func TestAgain(t *testing.T) {
	r := newRand(8)
	type history struct {
		src     string
		entries []api.Entry
		told    []string
	}
	var l []history
	for range 60 {
		x := random(t, r)
		h := history{src: x.p.src}
		for range 20 {
			e := entryFor(r, x.p)
			h.entries, h.told = append(h.entries, e), append(h.told, x.apply(t, e)+tell(x.b.Data()))
		}
		l = append(l, h)
	}
	for range 3 {
		r.Shuffle(len(l), func(i, j int) { l[i], l[j] = l[j], l[i] })
		var books []*Book
		for _, h := range l {
			b, _, _ := New(h.src)
			books = append(books, b)
		}
		for i := range 20 {
			for j, h := range l {
				if got := told(books[j].Apply(h.entries[i])) + tell(books[j].Data()); got != h.told[i] {
					t.Fatalf("%.1000s; not %.1000s", got, h.told[i])
				}
			}
		}
	}
}
