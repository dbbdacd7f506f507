package value

import (
	"bytes"
	"cmp"
	"fmt"
	"maps"
	"slices"
	"testing"
	"unsafe"

	"quern/api"
)

// P9.1: by chance, against the plain model.

func TestRandomValues(t *testing.T) {
	m := maker{newRand(2)}
	for range 20000 {
		v, s := m.wild(3), pick(m.r, allTypes)
		if m.r.IntN(2) == 0 {
			v = m.near(s)
		}
		if w := Weight(v); w != plainWeight(v) {
			t.Fatalf("Weight of %s: %d, not %d", told(v), w, plainWeight(v))
		}
		if is := Fits(v, s); is != plainFits(v, s) {
			t.Fatalf("Fits of %s, %s: %v", told(v), s, is)
		}
		if c := Copy(v); !same(c, v) {
			t.Fatalf("Copy of %s: %s", told(v), told(c))
		}
		b, e := Encode(v, s)
		if want, err := plainEncode(v, s); !bytes.Equal(b, want) || e != err {
			t.Fatalf("Encode of %s, %s: %x, %d; not %x, %d", told(v), s, b, e, want, err)
		}
	}
}

// someKey makes a key that a value has, or may have.
func (m maker) someKey(v api.Value) api.Value {
	switch {
	case v.Kind == 5 && len(v.List) > 1 && m.r.IntN(2) == 0:
		return Copy(v.List[2*m.r.IntN(len(v.List)/2)])
	case v.Kind == 4 && m.r.IntN(4) > 0:
		return number(m.r.IntN(len(v.List)+3) - 1)
	}
	return m.wild(1)
}

func TestRandomChanges(t *testing.T) {
	m := maker{newRand(3)}
	for range 20000 {
		s := pick(m.r, allTypes)
		v := m.near(s)
		switch m.r.IntN(4) {
		case 0:
			v = m.wildTable()
		case 1:
			v = m.wild(2)
			v.Kind = 4 + m.r.IntN(2)
		}
		x := m.wild(1)
		if inner := shapes[s].inner; inner != "" && m.r.IntN(2) == 0 {
			x = m.shaped(inner, m.r.IntN(2))
		}
		if wantAlike(t, v, m.someKey(v), x); t.Failed() {
			return
		}
	}
}

// P9.2

// wantReadAlike asks that bytes are read as the plain model reads them, and what is read is written as they are.
func wantReadAlike(t *testing.T, b []byte, s string) api.Errno {
	t.Helper()
	v, e := Decode(b, s)
	want, err := plainDecode(b, s)
	if !same(v, want) || e != err {
		t.Fatalf("Decode of %x, %s: %s, %d; not %s, %d", b, s, told(v), e, told(want), err)
	}
	if e != api.OK {
		return e
	}
	if back, e := Encode(v, s); !bytes.Equal(back, b) || e != api.OK {
		t.Fatalf("Decode of %x, %s: %s; Encode of that: %x, %d", b, s, told(v), back, e)
	}
	return e
}

// wantThereAndBack asks that a value's bytes are read as it, and no others that are nearly those.
func wantThereAndBack(t *testing.T, v api.Value, s string) {
	t.Helper()
	b, e := Encode(v, s)
	if e != api.OK {
		t.Fatalf("Encode of %s, %s: %d", told(v), s, e)
	}
	if back, e := Decode(b, s); !same(back, v) || Compare(back, v) != 0 || e != api.OK {
		t.Fatalf("%s, %s, there and back: %s, %d", told(v), s, told(back), e)
	}
	for n := 0; n < len(b); n += 1 + max(0, n-300)/30 { // all beginnings of up to 300 bytes, some of the longer ones
		wantNothing(t, b[:n], s)
	}
	wantNothing(t, b[:len(b)-1], s)
	for _, more := range []byte{0, 1, 128, 255} {
		wantNothing(t, append(slices.Clone(b), more), s)
	}
}

func wantNothing(t *testing.T, b []byte, s string) {
	t.Helper()
	if v, e := Decode(b, s); !same(v, api.Value{}) || e != api.ErrForm {
		t.Fatalf("Decode of %x, %s: %s, %d", b, s, told(v), e)
	}
}

func TestThereAndBack(t *testing.T) {
	m := maker{newRand(4)}
	for _, s := range allTypes {
		wantThereAndBack(t, Zero(s), s)
		for range 8 {
			wantThereAndBack(t, m.fitting(s), s)
		}
	}
	for _, n := range someNumbers {
		wantThereAndBack(t, number(n), "int")
		wantThereAndBack(t, list(number(n)), "[int]")
		wantThereAndBack(t, table(number(n), number(n)), "{int:int}")
	}
	for _, x := range someTexts {
		wantThereAndBack(t, word(x), "text")
		wantThereAndBack(t, table(word(x), word(x)), "{text:text}")
	}
	for _, c := range fitCases() {
		if c.want {
			wantThereAndBack(t, c.v, c.t)
		}
	}
}

// Of unlike values of a type the bytes are unlike.
func TestBytesTellValues(t *testing.T) {
	m := maker{newRand(5)}
	for _, s := range allTypes {
		seen := map[string]api.Value{}
		for range 100 {
			v := m.fitting(s)
			b, _ := Encode(v, s)
			if other, is := seen[string(b)]; is && !same(v, other) {
				t.Fatalf("%s and %s have the same bytes: %x", told(v), told(other), b)
			}
			seen[string(b)] = v
		}
	}
}

// Each of a value's numbers in a longer form than it needs.
func TestLongNumbers(t *testing.T) {
	m := maker{newRand(6)}
	for _, s := range allTypes {
		v := m.fitting(s)
		count := writer{long: -1}
		count.value(v)
		for i := 0; i < count.seen; i += 1 + count.seen/200 {
			w := writer{long: i}
			w.value(v)
			wantNothing(t, w.b, s)
		}
	}
}

func TestRandomBytes(t *testing.T) {
	m := maker{newRand(7)}
	fine := 0
	note := func(e api.Errno) {
		if e == api.OK {
			fine++
		}
	}
	for range 30000 {
		s := pick(m.r, allTypes)
		b := make([]byte, m.r.IntN(12))
		for i := range b {
			b[i] = pick(m.r, []byte{0, 0, 1, 1, 2, 3, 64, 65, 127, 128, 255})
		}
		note(wantReadAlike(t, b, s))
	}
	if fine < 300 {
		t.Error("too few of them are values: ", fine)
	}
	for range 10000 {
		s := pick(m.r, allTypes)
		w := writer{long: -1}
		w.value(m.near(s))
		b := w.b
		for range m.r.IntN(3) {
			switch i := m.r.IntN(len(b) + 1); {
			case i == len(b) || m.r.IntN(3) == 0:
				b = slices.Insert(b, i, byte(m.r.IntN(256)))
			case m.r.IntN(2) == 0:
				b = slices.Delete(b, i, i+1)
			default:
				b[i] = pick(m.r, []byte{0, 1, 2, 64, 65, 127, 128, 129, 255})
			}
		}
		wantReadAlike(t, b, s)
	}
}

// All bytes there are, up to a length, of the small types.
func TestAllShortBytes(t *testing.T) {
	for _, s := range []string{"int", "bool", "text", "[bool]", "[text]", "{text:bool}", "[[bool]]"} {
		for x := range 1 << 16 {
			if x < 256 {
				wantReadAlike(t, []byte{byte(x)}, s)
			}
			wantReadAlike(t, []byte{byte(x >> 8), byte(x)}, s)
		}
	}
}

// P9.3

func TestCompareIsAnOrder(t *testing.T) {
	m := maker{newRand(8)}
	some := func() api.Value {
		if m.r.IntN(2) == 0 {
			return m.fitting(pick(m.r, allTypes[:12]))
		}
		return m.wild(2)
	}
	near := func(v api.Value) api.Value {
		v = Copy(v)
		if m.r.IntN(3) > 0 {
			m.spoil(&v)
		}
		return v
	}
	for range 40000 {
		a := some()
		b, c := near(a), near(a)
		if m.r.IntN(3) == 0 {
			b = some()
		}
		ab, ba, bc, ac := Compare(a, b), Compare(b, a), Compare(b, c), Compare(a, c)
		if ab != -ba || (ab == 0) != same(a, b) || ab < -1 || ab > 1 {
			t.Fatalf("%s and %s: %d and %d", told(a), told(b), ab, ba)
		}
		if ab <= 0 && bc <= 0 && ac != min(ab, bc) || ab >= 0 && bc >= 0 && ac != max(ab, bc) {
			t.Fatalf("%s, %s and %s: %d, %d, %d", told(a), told(b), told(c), ab, bc, ac)
		}
		if ab != plainCompare(a, b) || Compare(a, a) != 0 {
			t.Fatalf("%s and %s: %d", told(a), told(b), ab)
		}
	}
}

// P9.4

// keyText is a key as a Go map has it.
func keyText(k api.Value) string { return string(orderly(k)) }

// wantPairs asks that a map of a type has just these pairs: by its own look, by At and by Has.
func wantPairs(t *testing.T, v api.Value, s string, keys, values map[string]api.Value) {
	t.Helper()
	if !Fits(v, s) || !plainFits(v, s) {
		t.Fatalf("%s isn't one of %s", told(v), s)
	}
	if n, e := Len(v); n != len(keys) || e != api.OK {
		t.Fatalf("Len of %s: %d, not %d", told(v), n, len(keys))
	}
	for text, k := range keys {
		x, e := At(v, k)
		has, err := Has(v, k)
		if !same(x, values[text]) || e != api.OK || !has || err != api.OK {
			t.Fatalf("of %s, %s: %s, %d, %v, %d; not %s", told(v), told(k), told(x), e, has, err, told(values[text]))
		}
	}
}

// small makes a value of a type that is light.
func (m maker) small(s string) api.Value { return m.shaped(s, 1) }

func TestMapsOfTypesStayThose(t *testing.T) {
	m := maker{newRand(9)}
	full, refused := 0, 0
	for _, s := range allTypes {
		if shapes[s].kind != 5 {
			continue
		}
		v := Zero(s)
		keys, values := map[string]api.Value{}, map[string]api.Value{}
		for range 300 {
			k, x := m.small(shapes[s].key), m.small(shapes[s].inner)
			if m.r.IntN(4) == 0 {
				next, e := Del(v, k)
				if has, err := Has(next, k); has || err != api.OK || e != api.OK {
					t.Fatalf("Del of %s, %s: %s, %d", told(v), told(k), told(next), e)
				}
				delete(keys, keyText(k))
				delete(values, keyText(k))
				v = next
				continue
			}
			next, e := Put(v, k, x)
			if e == api.ErrSize {
				refused++
				wantPairs(t, v, s, keys, values)
				continue
			}
			at, err := At(next, k)
			if has, _ := Has(next, k); e != api.OK || err != api.OK || !has || !same(at, x) {
				t.Fatalf("Put of %s, %s, %s: %s, %d", told(v), told(k), told(x), told(next), e)
			}
			keys[keyText(k)], values[keyText(k)] = k, x
			v = next
			if len(keys) == 64 {
				full++
			}
			if m.r.IntN(8) == 0 {
				wantPairs(t, v, s, keys, values)
			}
		}
		wantPairs(t, v, s, keys, values)
	}
	if full == 0 || refused == 0 {
		t.Error("no map grew to its limit", full, refused)
	}
}

func TestListsOfTypesStayThose(t *testing.T) {
	m := maker{newRand(10)}
	full, heavies := 0, 0
	for _, s := range allTypes {
		inner := shapes[s].inner
		if shapes[s].kind != 4 {
			continue
		}
		v := Zero(s)
		var want []api.Value
		for range 120 {
			x := m.shaped(inner, m.r.IntN(2))
			next, e := Push(v, x)
			wanted := append(slices.Clone(want), x)
			if i := m.r.IntN(4 * (len(want) + 1)); i < len(want) {
				next, e = Put(v, number(i), x)
				wanted = slices.Clone(want)
				wanted[i] = x
			}
			if e == api.ErrSize {
				if len(wanted) == 65 {
					full++
				} else if heavies++; plainWeight(list(wanted...)) <= 16384 {
					t.Fatalf("%s, %s: ErrSize", told(v), told(x))
				}
				continue
			}
			if e != api.OK || !same(next, list(wanted...)) || !Fits(next, s) || !plainFits(next, s) {
				t.Fatalf("%s, %s: %s, %d", told(v), told(x), told(next), e)
			}
			v, want = next, wanted
		}
	}
	if full == 0 || heavies == 0 {
		t.Error("no list grew to its limit", full, heavies)
	}
}

// P9.5

// span is the memory that something has.
type span struct{ from, to uintptr }

func listSpan[T any](l []T) span {
	var one T
	from := uintptr(unsafe.Pointer(unsafe.SliceData(l)))
	return span{from, from + uintptr(cap(l))*unsafe.Sizeof(one)}
}

// textSpan leaves out texts of one byte: the language's own memory has each of them once, and nobody can write there.
func textSpan(s string) span {
	if len(s) < 2 {
		return span{}
	}
	from := uintptr(unsafe.Pointer(unsafe.StringData(s)))
	return span{from, from + uintptr(len(s))}
}

// spans answers the memory of all lists and texts of values.
func spans(l ...api.Value) []span {
	var out []span
	for _, v := range l {
		out = append(out, listSpan(v.List), textSpan(v.Text))
		out = append(out, spans(v.List...)...)
	}
	return out
}

// share tells whether two of these have a byte in common.
func share(l []span) bool {
	l = slices.DeleteFunc(slices.Clone(l), func(s span) bool { return s.from == s.to })
	slices.SortFunc(l, func(a, b span) int { return cmp.Compare(a.from, b.from) })
	for i := 1; i < len(l); i++ {
		if l[i-1].to > l[i].from {
			return true
		}
	}
	return false
}

// owner makes arguments in memory of its own, lists with spare room in which something stands, and texts that can be written over.
type owner struct {
	bytes [][]byte
	lists [][]api.Value
}

func (o *owner) text(s string) string {
	if s == "" {
		return ""
	}
	b := []byte(s)
	o.bytes = append(o.bytes, b)
	return unsafe.String(&b[0], len(b))
}

func (o *owner) value(v api.Value) api.Value {
	l := make([]api.Value, len(v.List), len(v.List)+3)
	for i, x := range v.List {
		l[i] = o.value(x)
	}
	for i := len(l); i < cap(l); i++ {
		l[:cap(l)][i] = api.Value{Kind: 77, Num: i, Text: "spare"}
	}
	o.lists = append(o.lists, l)
	return api.Value{Kind: v.Kind, Num: v.Num, Text: o.text(v.Text), List: l}
}

// all tells all that the arguments hold, spare room included.
func (o *owner) all() string {
	s := fmt.Sprintf("%q", o.bytes)
	for _, l := range o.lists {
		s += fmt.Sprintf("%v", l[:cap(l)])
	}
	return s
}

// spoil writes over all that the arguments hold.
func (o *owner) spoil() {
	for _, b := range o.bytes {
		for i := range b {
			b[i] ^= 255
		}
	}
	for _, l := range o.lists {
		clear(l[:cap(l)])
	}
}

// answer is all that a call answers, but for its error.
type answer struct {
	values []api.Value
	texts  []string
	bytes  []byte
	rest   []int
}

func (a answer) spans() []span {
	out := append(spans(a.values...), listSpan(a.bytes))
	for _, s := range a.texts {
		out = append(out, textSpan(s))
	}
	return out
}

func (a answer) String() string {
	return fmt.Sprintf("%+v %q %x %v", a.values, a.texts, a.bytes, a.rest)
}

func one(v api.Value, e api.Errno) answer { return answer{values: []api.Value{v}, rest: []int{int(e)}} }

func truthNumber(is bool) int { return int(Bool(is).Num) }

// calls are all calls of the package, each with these arguments as far as it takes them.
func calls(v, k, x api.Value, s, of string, b []byte) map[string]answer {
	has, hasErr := Has(v, k)
	n, lenErr := Len(v)
	out := map[string]answer{
		"Int": one(Int(v.Num), 0), "Bool": one(Bool(v.Num == 1), 0), "Text": one(Text(s), 0), "Zero": one(Zero(of), 0), "Copy": one(Copy(v), 0),
		"Weight": {rest: []int{Weight(v)}}, "Compare": {rest: []int{Compare(v, k), Compare(k, v)}}, "Fits": {rest: []int{truthNumber(Fits(v, of))}},
		"Len": {rest: []int{n, int(lenErr)}}, "Has": {rest: []int{truthNumber(has), int(hasErr)}},
		"At": one(At(v, k)), "Put": one(Put(v, k, x)), "Del": one(Del(v, k)), "Push": one(Push(v, x)), "Decode": one(Decode(b, of)),
	}
	bytes, e := Encode(v, of)
	out["Encode"] = answer{bytes: bytes, rest: []int{int(e)}}
	element, is := List(of)
	out["List"] = answer{texts: []string{element}, rest: []int{truthNumber(is)}}
	key, inner, is := Map(of)
	out["Map"] = answer{texts: []string{key, inner}, rest: []int{truthNumber(is)}}
	return out
}

func tellAll(l map[string]answer) string {
	s := ""
	for _, name := range slices.Sorted(maps.Keys(l)) {
		s += name + ": " + l[name].String() + "\n"
	}
	return s
}

func TestNewMemory(t *testing.T) {
	m := maker{newRand(11)}
	for range 500 {
		of := pick(m.r, allTypes)
		v := m.near(of)
		if m.r.IntN(4) == 0 {
			v = m.wildTable()
		}
		k, x := m.someKey(v), m.wild(2)
		w := writer{long: -1}
		w.value(m.near(of))
		var o owner
		ov, ok, ox, os, oof := o.value(v), o.value(k), o.value(x), o.text("text"), o.text(of)
		ob := append(slices.Clone(w.b), 1, 2, 3)[:len(w.b)]
		o.bytes = append(o.bytes, ob[:cap(ob)])
		before := o.all()
		first, second := calls(ov, ok, ox, os, oof, ob), calls(ov, ok, ox, os, oof, ob)
		if o.all() != before {
			t.Fatalf("%s, %s, %s, %s: changed", told(v), told(k), told(x), of)
		}
		want := tellAll(calls(v, k, x, "text", of, w.b))
		all := append(spans(ov, ok, ox), textSpan(os), textSpan(oof), listSpan(ob))
		for name, a := range first {
			if share(slices.Concat(all, a.spans())) || share(slices.Concat(a.spans(), second[name].spans())) {
				t.Fatalf("%s of %s, %s, %s, %s: it shares memory", name, told(v), told(k), told(x), of)
			}
		}
		o.spoil()
		if got := tellAll(first); got != want {
			t.Fatalf("%s, not %s", told(got), told(want))
		}
		for _, a := range first {
			clear(a.bytes[:cap(a.bytes)])
			for _, v := range a.values {
				for _, l := range listsOf(v) {
					clear(l[:cap(l)])
				}
			}
		}
		if got := tellAll(second); got != want {
			t.Fatalf("%s, not %s", told(got), told(want))
		}
	}
}

func listsOf(v api.Value) [][]api.Value {
	out := [][]api.Value{v.List}
	for _, x := range v.List {
		out = append(out, listsOf(x)...)
	}
	return out
}

// One list stands at several places of what is handed in: it doesn't in what is answered.
func TestSharedArguments(t *testing.T) {
	inner := list(number(1), word("w"))
	outer := list(inner, inner, list(inner))
	pairs := table(inner, inner, table(), inner)
	put, e := Put(pairs, inner, inner)
	added, err := Put(table(list(), inner), inner, inner)
	pushed, third := Push(outer, inner)
	deleted, fourth := Del(pairs, list())
	at, fifth := At(outer, number(2))
	if e+err+third+fourth+fifth != 0 {
		t.Fatal(e, err, third, fourth, fifth)
	}
	for i, v := range []api.Value{Copy(outer), Copy(pairs), put, added, pushed, deleted, at} {
		if share(spans(v)) || share(slices.Concat(spans(v), spans(inner))) {
			t.Errorf("%d: %s shares memory", i, told(v))
		}
	}
}

// What is answered hangs on the arguments alone, whatever was asked ahead.
func TestAgain(t *testing.T) {
	m := maker{newRand(12)}
	type asked struct {
		v, k, x api.Value
		of      string
		b       []byte
		told    string
	}
	var l []asked
	for range 300 {
		a := asked{of: pick(m.r, allTypes)}
		a.v, a.x = m.near(a.of), m.wild(1)
		a.k = m.someKey(a.v)
		w := writer{long: -1}
		w.value(m.near(a.of))
		a.b = w.b
		a.told = tellAll(calls(a.v, a.k, a.x, a.of, a.of, a.b))
		l = append(l, a)
	}
	for _, a := range slices.Backward(l) {
		if got := tellAll(calls(Copy(a.v), Copy(a.k), Copy(a.x), a.of, a.of, slices.Clone(a.b))); got != a.told {
			t.Fatalf("%s, not %s", told(got), told(a.told))
		}
	}
}
