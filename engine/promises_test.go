package engine

import (
	"bytes"
	"cmp"
	"fmt"
	"math/rand/v2"
	"slices"
	"strings"
	"sync"
	"testing"
	"unsafe"

	"quern/api"
	"quern/book"
	"quern/disk"
)

// P19.1, P19.3

// anySource answers the text of a history; or, where a snapshot is, any at all.
func anySource(r *rand.Rand, x *twin) string {
	if !slices.ContainsFunc(x.p.d.Names(), func(s string) bool { return s[0] == 's' }) {
		return x.p.src
	}
	return pick(r, []string{x.p.src, "", "?", adder, wide(7)})
}

// tally counts how calls ended.
type tally map[string]int

func (c tally) note(call string, e api.Errno) { c[call+" "+errorName(e)]++ }

func (c tally) noteEntry(s string) {
	if !strings.Contains(s, "Err") {
		s = "a value"
	}
	c[s]++
}

func (c tally) want(t *testing.T, least int, l ...string) {
	t.Helper()
	for _, s := range l {
		if c[s] < least {
			t.Errorf("%s: too few: %v", s, c)
		}
	}
}

// step does something to a twin by chance.
func (x *twin) step(t *testing.T, r *rand.Rand, c tally) {
	t.Helper()
	keep := pick(r, []int{-1, 0, 3, 8, 19, 20, 100, greatest})
	switch n := r.IntN(100); {
	case n < 70:
		e := entryFor(r, x.p.book)
		c.noteEntry(x.propose(t, e))
	case n < 80:
		c.note("Save", x.save(t))
	case n < 85:
		c.note("Open", x.open(t, anySource(r, x), 1+r.IntN(4)))
	case n < 89:
		at := 1 + r.IntN(8)
		x.both(func(d *disk.Disk) { d.Arm(at, keep) })
	case n < 92:
		x.both(func(d *disk.Disk) { d.Off(keep) })
	case n < 94:
		size := 0
		for _, s := range files(x.d) {
			size += len(s)
		}
		size += r.IntN(200) - 200
		x.both(func(d *disk.Disk) { d.Room(size) })
	default:
		x.both(func(d *disk.Disk) { d.Room(room) })
	}
	if x.d.Down() && r.IntN(3) > 0 || x.g == nil {
		x.both((*disk.Disk).On)
	}
	for (x.g == nil || x.p.ended && r.IntN(3) == 0) && !x.d.Down() {
		c.note("Open", x.open(t, anySource(r, x), 1+r.IntN(4)))
		x.both((*disk.Disk).On)
	}
	x.same(t)
}

func TestRandomHistories(t *testing.T) {
	r := newRand(1)
	c := tally{}
	for range 160 {
		x := made(t, wide(pick(r, []int{1, 2, 127})), 1+r.IntN(4))
		for range 100 {
			x.step(t, r, c)
		}
	}
	c.want(t, 40, strings.Fields("ErrArg ErrOld ErrStale ErrVersion ErrCommand ErrOver ErrZero ErrKey ErrFuel ErrToken ErrArg! ErrDown! ErrFull!")...)
	c.want(t, 80, "Open OK", "Open ErrDown", "Save OK", "Save ErrDown", "Save ErrFull")
	c.want(t, 3000, "a value")
}

// P19.2

// grown answers a twin of a history that a seed tells.
func grown(t *testing.T, seed uint64) *twin {
	t.Helper()
	r := newRand(seed)
	x := made(t, wide(1), 1+r.IntN(3))
	for range r.IntN(12) {
		if x.propose(t, entryFor(r, x.p.book)) == "ErrFull!" || r.IntN(6) == 0 {
			x.save(t)
		}
	}
	return x
}

// calls are those that make raw writes: of each, whether there was an error, and whether that was of the power.
var calls = []func(t *testing.T, x *twin) bool{
	func(t *testing.T, x *twin) bool {
		return strings.HasPrefix(x.propose(t, do("9.1v1 add(1)")), "ErrDown!")
	},
	func(t *testing.T, x *twin) bool {
		return x.propose(t, upgradeTo(wide(x.p.book.Version()+1))) == "ErrDown!"
	},
	func(t *testing.T, x *twin) bool { return x.save(t) == api.ErrDown },
	func(t *testing.T, x *twin) bool { return x.open(t, x.p.src, 2) == api.ErrDown },
}

// wantFound opens a twin, perhaps with the power going in it, twice, and asks for what was answered and at most one entry more.
func (x *twin) wantFound(t *testing.T, r *rand.Rand, answered []api.Entry, tops tally) {
	t.Helper()
	keep := r.IntN(30) - 1
	for at := 1; r.IntN(3) > 0; at++ {
		x.both(func(d *disk.Disk) { d.Arm(at, keep) })
		e := x.open(t, x.p.src, 2)
		tops.note("Open", e)
		x.both(func(d *disk.Disk) { d.Arm(0, 0) })
		x.both((*disk.Disk).On)
		if e == api.OK {
			break
		}
	}
	for range 2 {
		if e := x.open(t, x.p.src, 2); e != api.OK {
			t.Fatal(errorName(e))
		}
		found := x.p.entries
		if len(found) != len(answered) && len(found) != len(answered)+1 || !slices.Equal(found[:len(answered)], answered) {
			t.Fatalf("%d entries are found, %d were answered", len(found), len(answered))
		}
		if want := tell(behind(x.p.src, found).Data()); tell(x.g.Data()) != want || x.g.Count() != len(found) {
			t.Fatalf("%d: %.1000s; not %.1000s", x.g.Count(), tell(x.g.Data()), want)
		}
	}
	tops.note(fmt.Sprint(len(x.p.entries)-len(answered), " more"), api.OK)
}

// The power goes at each raw write of each call.
func TestPowerAnywhere(t *testing.T) {
	r := newRand(2)
	c := tally{}
	for seed := range uint64(25) {
		for i, call := range calls {
			for at, down := 1, true; down; at++ {
				for _, keep := range []int{-1, 0, 7, r.IntN(60), greatest} {
					x := grown(t, 1000+seed)
					answered := slices.Clone(x.p.entries)
					x.both(func(d *disk.Disk) { d.Arm(at, keep) })
					down = call(t, x)
					if !down {
						break
					}
					c[fmt.Sprint("call ", i)]++
					if x.g != nil && x.g.Count() != len(answered) {
						t.Fatal(x.g.Count())
					}
					x.both((*disk.Disk).On)
					x.wantFound(t, r, answered, c)
					x.propose(t, do("8.1v1 add(1)"))
					x.save(t)
				}
			}
		}
	}
	c.want(t, 100, "call 0", "call 1", "call 2", "call 3", "Open ErrDown", "Open OK", "0 more OK", "1 more OK")
}

// The power goes between two calls, and whatever waits is lost: nothing does.
func TestPowerBetween(t *testing.T) {
	for seed := range uint64(60) {
		x := grown(t, 2000+seed)
		x.save(t)
		for i := range 6 {
			answered := slices.Clone(x.p.entries)
			keep := int(seed) - 30
			x.both(func(d *disk.Disk) { d.Off(keep) })
			x.both((*disk.Disk).On)
			if i%2 == 0 {
				x.wantFound(t, newRand(seed), answered, tally{})
			}
			x.propose(t, do(fmt.Sprintf("9.%dv%d add(1)", i+1, x.p.book.Version())))
		}
	}
}

// P19.4

// An engine that is saved and opened anew anywhere answers and holds the same as a book that never was.
func TestSavedAnywhere(t *testing.T) {
	r := newRand(3)
	for range 60 {
		src := wide(1)
		never, _, _ := book.New(src)
		d := disk.New(room)
		g := opened(t, d, src, 1+r.IntN(5))
		laid := 0
		for range 40 {
			e := entryFor(r, never)
			want := "ErrArg!"
			if book.Valid(e) {
				want, laid = told(never.Apply(e), api.OK), laid+1
			}
			if got := told(g.Propose(e)); got != want {
				t.Fatalf("%s: %.500s; not %.500s", named(e), got, want)
			}
			for range r.IntN(3) {
				if e := g.Save(); e != api.OK {
					t.Fatal(errorName(e))
				}
				src = pick(r, []string{wide(1), "?"})
			}
			if r.IntN(3) == 0 || len(d.Names()) > 14 {
				g = opened(t, d, src, 1+r.IntN(5))
				if len(d.Names()) > 14 && g.Save() == api.OK {
					src = "?"
				}
			}
			if got, want := tell(g.Data()), tell(never.Data()); got != want || g.Count() != laid {
				t.Fatalf("%d: %.500s; not %d: %.500s", g.Count(), got, laid, want)
			}
		}
	}
}

// P19.5

// span is the memory that something has.
type span struct{ from, to uintptr }

func listSpan[T any](l []T) span {
	var one T
	from := uintptr(unsafe.Pointer(unsafe.SliceData(l)))
	return span{from, from + uintptr(cap(l))*unsafe.Sizeof(one)}
}

// textSpan leaves out texts of one byte: the language's own memory has each of them once, and nobody can write there.
func textSpan(s string) span {
	if len(s) < 2 {
		return span{}
	}
	from := uintptr(unsafe.Pointer(unsafe.StringData(s)))
	return span{from, from + uintptr(len(s))}
}

// valueSpans answers the memory of values, in all their depths, but for the list in which they stand.
func valueSpans(l ...api.Value) []span {
	var out []span
	for _, v := range l {
		out = append(out, textSpan(v.Text), listSpan(v.List))
		out = append(out, valueSpans(v.List...)...)
	}
	return out
}

func bookSpans(b api.Book) []span {
	out := append(valueSpans(b.States...), textSpan(b.Source), listSpan(b.States), listSpan(b.Sessions))
	for _, s := range b.Sessions {
		out = append(out, valueSpans(s.Reply.Value)...)
	}
	return out
}

// share tells whether two of these have a byte in common.
func share(l []span) bool {
	l = slices.DeleteFunc(slices.Clone(l), func(s span) bool { return s.from == s.to })
	slices.SortFunc(l, func(a, b span) int { return cmp.Compare(a.from, b.from) })
	for i := 1; i < len(l); i++ {
		if l[i-1].to > l[i].from {
			return true
		}
	}
	return false
}

// owner makes texts in memory of its own, that can be written over.
type owner struct{ parts [][]byte }

func (o *owner) text(s string) string {
	own := append(bytes.Clone([]byte(s)), 99, 99)
	o.parts = append(o.parts, own)
	return unsafe.String(unsafe.SliceData(own), len(s))
}

func (o *owner) entry(e api.Entry) api.Entry {
	e.Data = o.text(e.Data)
	return e
}

func (o *owner) all() string { return string(slices.Concat(o.parts...)) }

func (o *owner) spans() []span {
	var out []span
	for _, b := range o.parts {
		out = append(out, listSpan(b))
	}
	return out
}

func (o *owner) wipe() {
	for _, b := range o.parts {
		clear(b)
	}
}

func wipe(l []api.Value) {
	for _, v := range l {
		wipe(v.List)
	}
	clear(l[:cap(l)])
}

func wipeBook(d api.Book) {
	wipe(d.States)
	for _, s := range d.Sessions {
		wipe(s.Reply.Value.List)
	}
	clear(d.Sessions[:cap(d.Sessions)])
}

// handed is an engine whose arguments an owner makes, with what its calls answered: nothing of it all may share memory; and a like one, whose arguments and answers are let be.
type handed struct {
	own     owner
	d       *disk.Disk
	g, like *Engine
	spans   []span
	replies []api.Reply
	data    []api.Book
}

func hand(t *testing.T, src string, per int) *handed {
	t.Helper()
	h := &handed{d: disk.New(room), like: opened(t, disk.New(room), src, per)}
	h.open(t, src, per)
	return h
}

func (h *handed) open(t *testing.T, src string, per int) {
	t.Helper()
	h.g = opened(t, h.d, h.own.text(src), per)
}

// propose asks both, and keeps the answer.
func (h *handed) propose(t *testing.T, e api.Entry) {
	t.Helper()
	own := h.own.entry(e)
	held, was := h.own.all(), own
	r, wrong := h.g.Propose(own)
	if h.own.all() != held || own != was {
		t.Fatalf("%s is changed", named(e))
	}
	want := told(h.like.Propose(e))
	if got := told(r, wrong); got != want {
		t.Fatalf("%s: %.500s; not %.500s", named(e), got, want)
	}
	h.replies = append(h.replies, r)
	h.spans = append(h.spans, valueSpans(r.Value)...)
}

// look keeps all that the engine answers of itself.
func (h *handed) look() {
	d := h.g.Data()
	h.data = append(h.data, d)
	h.spans = append(h.spans, bookSpans(d)...)
}

// wipe asks whether memory is shared, and writes over all that was handed in and answered.
func (h *handed) wipe(t *testing.T) {
	t.Helper()
	if share(append(h.own.spans(), h.spans...)) {
		t.Fatalf("memory is shared behind %d entries", h.g.Count())
	}
	h.own.wipe()
	for _, r := range h.replies {
		wipe(r.Value.List)
	}
	for _, d := range h.data {
		wipeBook(d)
	}
	h.own, h.spans, h.replies, h.data = owner{}, nil, nil, nil // what is written over may have let go of memory, which others get then
	h.same(t)
}

func (h *handed) same(t *testing.T) {
	t.Helper()
	if got, want := tell(h.g.Data()), tell(h.like.Data()); got != want || h.g.Count() != h.like.Count() || !slices.Equal(files(h.d), files(h.like.disk)) {
		t.Fatalf("%d: %.900s; not %d: %.900s", h.g.Count(), got, h.like.Count(), want)
	}
}

func TestNewMemory(t *testing.T) {
	r := newRand(4)
	for range 100 {
		h := hand(t, wide(1), 2)
		for _, s := range []string{`1.1v1 put("a key", [1, 2])`, `2.1v1 say("a text")`, `3.1v1 keep("an element")`} {
			h.propose(t, do(s))
			h.propose(t, do(s))
		}
		for range 12 {
			e := entryFor(r, h.like.Book())
			h.propose(t, e)
			h.propose(t, e)
			h.look()
			h.look()
			if r.IntN(3) == 0 {
				h.g.Save()
				h.like.Save()
			}
			if r.IntN(4) == 0 {
				h.open(t, wide(1), 2)
			}
			if r.IntN(4) == 0 {
				h.wipe(t)
			}
		}
		h.wipe(t)
	}
}

// What was answered stays as it is, whatever the engine does then.
func TestAnswersStay(t *testing.T) {
	r := newRand(5)
	for range 60 {
		d := disk.New(room)
		g := opened(t, d, wide(1), 3)
		var now []func() string
		var then []string
		keep := func(f func() string) { now, then = append(now, f), append(then, f()) }
		for range 30 {
			reply, e := g.Propose(entryFor(r, g.Book()))
			keep(func() string { return told(reply, e) })
			data, own := g.Data(), g.Book()
			keep(func() string { return tell(data) })
			keep(func() string { return fmt.Sprint(tell(own.Data()), own.Version()) })
			g.Save()
		}
		for i, f := range now {
			if f() != then[i] {
				t.Fatalf("%.500s; was %.500s", f(), then[i])
			}
		}
	}
}

// Book's answer and the engine know nothing of one another.
func TestBooksApart(t *testing.T) {
	r := newRand(6)
	for range 60 {
		d := disk.New(room)
		g := opened(t, d, wide(1), 100)
		never := behind(wide(1), nil)
		for range 15 {
			e := entryFor(r, never)
			if book.Valid(e) {
				never.Apply(e)
			}
			g.Propose(e)
			b, apart := g.Book(), never.Copy()
			for range 10 {
				e := entryFor(r, b)
				if got, want := told(b.Apply(e), api.OK), told(apart.Apply(e), api.OK); got != want {
					t.Fatalf("%s: %.500s; not %.500s", named(e), got, want)
				}
			}
			if tell(b.Data()) != tell(apart.Data()) || tell(g.Data()) != tell(never.Data()) || tell(g.Book().Data()) != tell(never.Data()) {
				t.Fatalf("%.500s; not %.500s", tell(g.Data()), tell(never.Data()))
			}
		}
		if got := opened(t, d, wide(1), 1); tell(got.Data()) != tell(never.Data()) {
			t.Fatalf("%.500s", tell(got.Data()))
		}
	}
}

// What is answered hangs on what the engine holds alone: whatever other engines are asked meanwhile, each one in a goroutine of its own.
func TestAtOneTime(t *testing.T) {
	var wait sync.WaitGroup
	wrong := make([]string, 8)
	for i := range wrong {
		wait.Go(func() {
			r := newRand(7)
			d := disk.New(room)
			for n := range 20 {
				g, e := Open(d, wide(1), 1+n%3)
				if e != api.OK {
					wrong[i] = errorName(e)
					return
				}
				for range 10 {
					g.Propose(entryFor(r, g.Book()))
				}
				g.Save()
				wrong[i] += fmt.Sprint(tell(g.Data()), g.Count())
			}
		})
	}
	wait.Wait()
	for _, s := range wrong {
		if s != wrong[0] || len(s) < 1000 {
			t.Errorf("%.500s; not %.500s", s, wrong[0])
		}
	}
}
