package image

import (
	"bytes"
	"cmp"
	"fmt"
	"math/rand/v2"
	"slices"
	"strings"
	"testing"
	"unsafe"

	"quern/api"
	"quern/machine"
	"quern/vm"
)

// random answers a program of a version and of states, by chance where there are none given.
func random(t *testing.T, r *rand.Rand, version int, states []string) program {
	t.Helper()
	return loaded(t, text(r, version, states))
}

// P17.1 and P17.2, by chance.

func TestRandomImages(t *testing.T) {
	r := newRand(1)
	fit, seen := map[bool]int{}, map[api.Errno]int{}
	for range 1000 {
		p := random(t, r, pick(r, someVersions), someStates(r))
		if got := Schema(p.m); got != plainSchema(p.Prog) {
			t.Fatalf("%s: %q", p.src, got)
		}
		states := stateOf(r, p.Prog)
		for range 4 {
			b, e := Encode(p.m, states)
			if want, wanted := plainEncode(p.Prog, states); !bytes.Equal(b, want) || e != wanted {
				t.Fatalf("%s: %.300s: %.300x, %d; not %.300x, %d", p.src, shownAll(states), b, e, want, wanted)
			}
			fit[e == api.OK]++
			if e == api.OK {
				if back, e := Decode(p.m, b); !allAlike(back, states) || e != api.OK {
					t.Fatalf("%s: %.300s: %.300s, %d", p.src, shownAll(states), shownAll(back), e)
				}
				seen[wantRead(t, p, b)]++
				for range 10 {
					seen[wantRead(t, p, spoiledBytes(r, b))]++
				}
			}
			states = stateOf(r, p.Prog)
			spoil(r, &states)
		}
	}
	if fit[true] < 500 || fit[false] < 500 || seen[api.OK] < 1000 || seen[api.ErrForm] < 1000 || seen[api.ErrVersion] < 1000 {
		t.Error(fit, seen)
	}
}

// An image of one machine is read by another one just if version and schema are the same.
func TestRandomMachines(t *testing.T) {
	r := newRand(2)
	seen := map[api.Errno]int{}
	for range 2000 {
		version, list := pick(r, someVersions), someStates(r)
		from := random(t, r, version, list)
		if r.IntN(4) == 0 {
			version = pick(r, someVersions)
		}
		if r.IntN(2) == 0 {
			list = change(r, list)
		}
		p := random(t, r, version, list)
		states := stateOf(r, from.Prog)
		b, _ := Encode(from.m, states)
		back, e := Decode(p.m, b)
		if is := p.Version == from.Version && plainSchema(p.Prog) == plainSchema(from.Prog); is != (e == api.OK) || !is && e != api.ErrVersion || is && !allAlike(back, states) {
			t.Fatalf("%s to %s: %.300s: %.300s, %s", from.src, p.src, shownAll(states), shownAll(back), errorName(e))
		}
		seen[wantRead(t, p, b)]++
	}
	if seen[api.OK] < 300 || seen[api.ErrVersion] < 300 {
		t.Error(seen)
	}
}

func TestRandomMigrate(t *testing.T) {
	r := newRand(3)
	seen := map[api.Errno]int{}
	for range 3000 {
		version, list := pick(r, someVersions), someStates(r)
		old := random(t, r, version, list)
		if version < 1<<40 && r.IntN(8) > 0 {
			version++
		} else {
			version = pick(r, someVersions)
		}
		next := random(t, r, version, change(r, list))
		states := stateOf(r, old.Prog)
		if r.IntN(8) == 0 {
			spoil(r, &states)
		}
		for _, fuel := range []int{4096, 0, 1, 2, r.IntN(30), 5000, -1, least, greatest} {
			seen[wantNext(t, old, states, next, fuel, "")]++
		}
		out, o := Migrate(old.m, states, next.m, 4096)
		for _, fuel := range []int{4096 - o.Fuel, 4096 - o.Fuel - 1} { // just enough, and one unit less
			seen[wantNext(t, old, states, next, fuel, "")]++
		}
		if o.Err == api.OK && !next.m.Fits(out) {
			t.Fatalf("%s to %s: %.300s: %.300s: no state", old.src, next.src, shownAll(states), shownAll(out))
		}
	}
	for _, e := range []api.Errno{api.OK, api.ErrState, api.ErrVersion, api.ErrOver, api.ErrZero, api.ErrKey, api.ErrSize, api.ErrFuel} {
		if seen[e] < 100 {
			t.Errorf("%s: too few: %v", errorName(e), seen)
		}
	}
}

// P17.3

func TestCarried(t *testing.T) {
	r := newRand(4)
	carried, first := 0, 0
	for range 2000 {
		list := someStates(r)
		old := random(t, r, 7, list)
		next := loaded(t, fmt.Sprintf("version 8; %s on upgrade(q: int): int { ret 1 / 0; }", strings.Join(change(r, list), " ")))
		states := stateOf(r, old.Prog)
		out, o := Migrate(old.m, states, next.m, 9)
		if len(out) != len(next.States) || !sameOutcome(o, api.Outcome{Fuel: 9}) {
			t.Fatalf("%s to %s: %s", old.src, next.src, told(out, o))
		}
		for i, s := range next.States {
			want := next.m.Zero()[i]
			for j, from := range old.States {
				if from.Name == s.Name && from.Type == s.Type {
					want = states[j]
					carried++
				}
			}
			if !alike(out[i], want) {
				t.Fatalf("%s to %s: %s: %.200s; not %.200s", old.src, next.src, s.Name, shown(out[i]), shown(want))
			}
			first++
		}
	}
	if first -= carried; carried < 1000 || first < 1000 {
		t.Error(carried, first)
	}
}

// From version to version, over images.
func TestHistories(t *testing.T) {
	r := newRand(5)
	done := 0
	for range 200 {
		list := someStates(r)
		p := random(t, r, 120, list)
		states := p.m.Zero()
		for range 15 {
			states, _ = p.m.Call(states, api.Command{Name: "go"}, 9)
			b, e := Encode(p.m, states)
			back, wrong := Decode(p.m, b)
			if e != api.OK || wrong != api.OK || !allAlike(back, states) {
				t.Fatalf("%s: %.300s: %.300s, %d, %d", p.src, shownAll(states), shownAll(back), e, wrong)
			}
			list = change(r, list)
			next := random(t, r, p.Version+1, list)
			wantNext(t, p, back, next, 4096, "")
			out, o := Migrate(p.m, back, next.m, 4096)
			if o.Err != api.OK {
				next = loaded(t, fmt.Sprintf("version %d; %s on go(): int {}", p.Version+1, strings.Join(list, " ")))
				out, _ = Migrate(p.m, back, next.m, 4096)
				done--
			}
			if _, e := Decode(next.m, b); e != api.ErrVersion {
				t.Fatalf("%s: it reads what %s wrote: %d", next.src, p.src, e)
			}
			p, states = next, out
			done++
		}
	}
	if done < 1000 {
		t.Error(done)
	}
}

// Any and ReadAny, by chance.

// wantAsPlain asks what ReadAny answers, and that Any makes the bytes of it; and tells whether it is a value.
func wantAsPlain(t *testing.T, b []byte) bool {
	t.Helper()
	v, e := ReadAny(b)
	if want, wanted := plainReadAny(b); !alike(v, want) || e != wanted {
		t.Fatalf("%.300x: %.300s, %s; not %.300s, %s", b, shown(v), errorName(e), shown(want), errorName(wanted))
	}
	if e == api.OK && !bytes.Equal(Any(v), b) {
		t.Fatalf("%.300x: %.300s: %.300x", b, shown(v), Any(v))
	}
	return e == api.OK
}

func TestRandomAny(t *testing.T) {
	r := newRand(6)
	are, sound := map[bool]int{}, map[bool]int{}
	for range 10000 {
		v := anything(r, r.IntN(7))
		for range r.IntN(3) * r.IntN(14) {
			v = pick(r, values(list(v), list(number(1), v), pairs(v, one("true")), pairs(word("k"), v)))
		}
		b := Any(v)
		if !vm.Sound(v) {
			sound[false]++ // too heavy
		}
		sound[true]++
		if !bytes.Equal(b, plainAny(v)) {
			t.Fatalf("%.300s: %.300x; not %.300x", shown(v), b, plainAny(v))
		}
		if is := wantAsPlain(t, b); is != (deepest(v) <= 24) {
			t.Fatalf("%.300s: it is read: %v", shown(v), is)
		}
		if x, e := ReadAny(b); e == api.OK && !alike(x, v) {
			t.Fatalf("%.300s: %.300s", shown(v), shown(x))
		}
		for range 10 {
			are[wantAsPlain(t, spoiledBytes(r, b))]++
		}
	}
	if are[true] < 5000 || are[false] < 5000 || sound[false] > 100 {
		t.Error(are, sound)
	}
}

// P17.4

// span is the memory that something has.
type span struct{ from, to uintptr }

func listSpan[T any](l []T) span {
	var one T
	from := uintptr(unsafe.Pointer(unsafe.SliceData(l)))
	return span{from, from + uintptr(cap(l))*unsafe.Sizeof(one)}
}

// textSpan leaves out texts of one byte: the language's own memory has each of them once, and nobody can write there.
func textSpan(s string) span {
	if len(s) < 2 {
		return span{}
	}
	from := uintptr(unsafe.Pointer(unsafe.StringData(s)))
	return span{from, from + uintptr(len(s))}
}

// spans answers the memory of a list of values, in all its depths.
func spans(l []api.Value) []span {
	out := []span{listSpan(l)}
	for _, v := range l {
		out = append(out, textSpan(v.Text))
		out = append(out, spans(v.List)...)
	}
	return out
}

// share tells whether two of these have a byte in common.
func share(l []span) bool {
	l = slices.DeleteFunc(slices.Clone(l), func(s span) bool { return s.from == s.to })
	slices.SortFunc(l, func(a, b span) int { return cmp.Compare(a.from, b.from) })
	for i := 1; i < len(l); i++ {
		if l[i-1].to > l[i].from {
			return true
		}
	}
	return false
}

// owner makes arguments in memory of its own, lists with spare room in which something stands, and texts that can be written over.
type owner struct {
	spans []span
	bytes [][]byte // of all lists and texts
	wipes []func()
}

func (o *owner) text(s string) string {
	if s == "" {
		return ""
	}
	b := []byte(s)
	o.bytes = append(o.bytes, b)
	o.wipes = append(o.wipes, func() { clear(b) })
	s = unsafe.String(&b[0], len(b))
	o.spans = append(o.spans, textSpan(s))
	return s
}

func roomy[T any](o *owner, l []T, spare T) []T {
	l = append(slices.Clone(l), spare, spare)
	at := listSpan(l)
	o.bytes = append(o.bytes, unsafe.Slice((*byte)(unsafe.Pointer(&l[0])), at.to-at.from))
	o.wipes = append(o.wipes, func() { clear(l[:cap(l)]) })
	o.spans = append(o.spans, at)
	return l[:len(l)-2]
}

func (o *owner) values(l []api.Value) []api.Value {
	l = roomy(o, l, api.Value{Kind: 99})
	for i := range l {
		l[i].Text, l[i].List = o.text(l[i].Text), o.values(l[i].List)
	}
	return l
}

// all answers all that the arguments hold, spare room included.
func (o *owner) all() string { return string(slices.Concat(o.bytes...)) }

func (o *owner) wipe() {
	for _, wipe := range o.wipes {
		wipe()
	}
}

func wipe(l []api.Value) {
	for _, v := range l {
		wipe(v.List)
	}
	clear(l[:cap(l)])
}

// answer is what a call answered: its memory, what it is by now, what writes over it.
type answer struct {
	spans []span
	tell  func() string
	wipe  func()
}

func valuesAnswer(l []api.Value, more any) answer {
	return answer{spans(l), func() string { return fmt.Sprint(l, more) }, func() { wipe(l) }}
}

func bytesAnswer(b []byte, e api.Errno) answer {
	return answer{[]span{listSpan(b)}, func() string { return fmt.Sprint(b, e) }, func() { clear(b[:cap(b)]) }}
}

// asked is a call, whose arguments the owner makes; it says ready when they are made.
type asked func(o *owner, ready func()) answer

// calls answers each call, of two machines, a state, an image, a value and its bytes.
func calls(old *machine.Machine, states []api.Value, next *machine.Machine, fuel int, image []byte, v api.Value, b []byte) []asked {
	return []asked{
		func(*owner, func()) answer {
			s := Schema(old)
			return answer{[]span{textSpan(s)}, func() string { return s }, func() {}}
		},
		func(o *owner, ready func()) answer {
			l := o.values(states)
			ready()
			return bytesAnswer(Encode(old, l))
		},
		func(o *owner, ready func()) answer {
			b := roomy(o, image, 99)
			ready()
			l, e := Decode(old, b)
			return valuesAnswer(l, e)
		},
		func(o *owner, ready func()) answer {
			l := o.values(states)
			ready()
			l, out := Migrate(old, l, next, fuel)
			held := valuesAnswer(values(out.Value), out)
			return answer{append(spans(l), held.spans[1:]...), func() string { return fmt.Sprint(l, out) }, func() { wipe(l); wipe(out.Value.List) }}
		},
		func(o *owner, ready func()) answer {
			l := o.values(values(v))
			ready()
			return bytesAnswer(Any(l[0]), api.OK)
		},
		func(o *owner, ready func()) answer {
			b := roomy(o, b, 99)
			ready()
			v, e := ReadAny(b)
			return answer{spans(values(v))[1:], func() string { return fmt.Sprint(v, e) }, func() { wipe(v.List) }}
		},
	}
}

// facts is what all of these answer.
func facts(l []asked) string {
	s := ""
	for _, ask := range l {
		s += ask(&owner{}, func() {}).tell() + "\n"
	}
	return s
}

// wantNew asks for P17.4 of each of these calls, each one twice: what was handed in is the same behind it; nothing shares memory; what was handed in and answered is written over then, and all else stays as it was.
func wantNew(t *testing.T, l []asked) {
	t.Helper()
	before := facts(l)
	for i, ask := range l {
		var own owner
		var answers []answer
		want := ask(&owner{}, func() {}).tell()
		for range 2 {
			held := ""
			answers = append(answers, ask(&own, func() { held = own.all() }))
			if held != "" && own.all() != held {
				t.Fatalf("call %d: what was handed in is changed", i)
			}
		}
		if share(slices.Concat(own.spans, answers[0].spans, answers[1].spans)) {
			t.Fatalf("call %d: memory is shared: %.500s", i, want)
		}
		own.wipe()
		for range 2 {
			if got := answers[0].tell(); got != want {
				t.Fatalf("call %d: %.500s; not %.500s", i, got, want)
			}
			answers[0].wipe()
			answers = answers[1:]
		}
		if after := facts(l); after != before {
			t.Fatalf("call %d: it answers others by now: %.500s; not %.500s", i, after, before)
		}
	}
}

func TestNewMemory(t *testing.T) {
	old := loaded(t, `version 1; state n: int; state t: text; state l: [text]; state m: {text:[int]}; state x: {int:{int:text}};`)
	state := all(`5, "a text", ["one", "two", ""], {"a key": [1, 2], "another": []}, {1: {2: "deep"}}`)
	same := "state x: {int:{int:text}}; state l: [text]; state t: text; state m: {text:[int]}; state o: int; "
	for _, src := range []string{
		"", "on upgrade(): [text] { set l = push(l, t); ret l; }", "on upgrade(): text { set t = x[1][2]; ret t; }", "on upgrade(): {text:[int]} { ret m; }", "on upgrade(): text { let a = \"a constant\"; set t = a; ret a; }",
		"on upgrade(): int { for i to 9 {} ret 1; }", "on upgrade(): int { for i to 10 {} ret 1; }", "on upgrade(): int { set l[0] = t; ret 1 / o; }", "on upgrade(a: int): int {}",
	} {
		next := loaded(t, "version 2; "+same+src)
		for _, l := range [][]api.Value{state, state[:4], append(slices.Clone(state[:4]), list()), nil} {
			image, _ := Encode(old.m, state)
			for _, b := range [][]byte{image, image[:len(image)-1], image[1:], nil} {
				wantNew(t, calls(old.m, l, next.m, 9, b, list(state...), Any(list(state...))))
				wantNew(t, calls(old.m, l, old.m, 9, b, state[3], Any(state[3])[1:]))
				wantNew(t, calls(next.m, l, nil, 9, b, api.Value{Text: "a text", List: state}, []byte{0}))
				wantNew(t, calls(nil, l, next.m, 9, b, word("a text"), nil))
			}
		}
	}
	r := newRand(7)
	for range 300 {
		list := someStates(r)
		old, next := random(t, r, 1, list), random(t, r, 2, change(r, list))
		states, v := stateOf(r, old.Prog), anything(r, 5)
		image, _ := Encode(old.m, states)
		b := Any(v)
		wantNew(t, calls(old.m, states, next.m, r.IntN(40), image, v, b))
		spoil(r, &states)
		wantNew(t, calls(old.m, states, next.m, r.IntN(40), spoiledBytes(r, image), v, spoiledBytes(r, b)))
	}
}

// One list and one text stand at several places of what is handed in: what is answered shares nothing all the same.
func TestSharedParts(t *testing.T) {
	src := "state a: [text]; state b: [text]; state c: [[text]]; state d: text; "
	old := loaded(t, "version 1; "+src)
	text := strings.Clone("one text")
	one := list(word(text), word(text))
	states := values(one, one, list(one, one), word(text))
	given := append(spans(states)[:1], listSpan(states[2].List), listSpan(one.List), textSpan(text))
	for _, more := range []string{"", "on upgrade(): [[text]] { ret push(c, a); }", "on upgrade(): [text] { set a = push(b, d); set b = a; ret a; }"} {
		out, o := Migrate(old.m, states, loaded(t, "version 2; "+src+more).m, 9)
		if o.Err != api.OK || share(slices.Concat(given, spans(out), spans(values(o.Value)))) {
			t.Errorf("%s: memory is shared: %s", more, told(out, o))
		}
	}
	b, _ := Encode(old.m, states)
	out, e := Decode(old.m, b)
	if e != api.OK || share(slices.Concat(given, spans(out))) {
		t.Errorf("memory is shared: %s, %d", shownAll(out), e)
	}
	v, e := ReadAny(Any(list(states...)))
	if e != api.OK || share(slices.Concat(given, spans(values(v)))) {
		t.Errorf("memory is shared: %s, %d", shown(v), e)
	}
}

// What is answered hangs on the arguments alone: whatever was asked meanwhile, in whichever order.
func TestAgain(t *testing.T) {
	r := newRand(8)
	type known struct {
		asked []asked
		facts string
	}
	var l []known
	for range 200 {
		list := someStates(r)
		old, next := random(t, r, 1, list), random(t, r, 2, change(r, list))
		states, v := stateOf(r, old.Prog), anything(r, 5)
		image, _ := Encode(old.m, states)
		k := known{asked: calls(old.m, states, next.m, r.IntN(40), image, v, Any(v))}
		k.asked = append(k.asked, calls(loaded(t, old.src).m, states, loaded(t, next.src).m, r.IntN(40), image, v, Any(v))...)
		k.facts = facts(k.asked)
		l = append(l, k)
	}
	for range 3 {
		r.Shuffle(len(l), func(i, j int) { l[i], l[j] = l[j], l[i] })
		for _, k := range l {
			if got := facts(k.asked); got != k.facts {
				t.Fatalf("%.500s; not %.500s", got, k.facts)
			}
		}
	}
}
