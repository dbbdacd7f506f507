package value

import (
	"bytes"
	"encoding/binary"
	"fmt"
	"math"
	"math/rand/v2"
	"slices"
	"strconv"
	"strings"
	"testing"

	"quern/api"
)

// The plain model has a table of all types, which it lays together from within, so that it reads none; it orders values by bytes that stand in their order; it goes through maps from the front; it knows the numbers' bytes from the library.

// shape is what a type is made of: its values' kind, a map's keys' type, the type of the elements or a map's values.
type shape struct {
	kind       int
	key, inner string
}

var allTypes, shapes = layTypes()

func layTypes() ([]string, map[string]shape) {
	list := []string{"int", "bool", "text"}
	table := map[string]shape{"int": {kind: 1}, "bool": {kind: 2}, "text": {kind: 3}}
	last := list
	for range 3 {
		var next []string
		for _, inner := range last {
			for text, s := range map[string]shape{"[" + inner + "]": {4, "", inner}, "{int:" + inner + "}": {5, "int", inner}, "{text:" + inner + "}": {5, "text", inner}} {
				table[text] = s
				next = append(next, text)
			}
		}
		slices.Sort(next)
		list = append(list, next...)
		last = next
	}
	return list, table
}

// noTypes are texts that are no type's.
var noTypes = append(tooDeepTypes(),
	"", " ", "Int", "INT", "in", "ints", "int ", " int", "int\n", "num", "string", "truth", "list", "map", "boolean", "tex", "texts",
	"[", "]", "[]", "[int", "int]", "[int]]", "[[int]", "[ int]", "[int ]", "[int] ", " [int]", "[int,int]", "[int][int]", "[int:int]", "[:int]", "[Int]", "[[]]",
	"{", "}", "{}", "{int}", "{:}", "{int:}", "{:int}", "{bool:int}", "{Int:int}", "{[int]:int}", "{{int:int}:int}", "{int:int", "int:int}", "{int:int}}", "{{int:int}",
	"{int: int}", "{int :int}", "{ int:int}", "{int:int }", "{int:int,int:int}", "{int:int:int}", "{int:int:int:int}", "{text:text:text}", "{int;int}", "{int,int}", "{int:num}", "{num:int}",
	"{int:[int}]", "[int}", "{int:int]", "(int)", "<int>", "int:int", ":", "\x00", "int\x00", "\xff", "[\x00]",
	strings.Repeat("[", 70000)+"int"+strings.Repeat("]", 70000), strings.Repeat("{int:", 70000)+"int"+strings.Repeat("}", 70000), strings.Repeat("[", 70000), strings.Repeat("int", 70000))

// tooDeepTypes are types of the depth 5 and 6.
func tooDeepTypes() []string {
	var out []string
	for _, s := range allTypes[3+9+27:] {
		out = append(out, "["+s+"]", "{int:"+s+"}", "{text:"+s+"}", "[["+s+"]]")
	}
	return out
}

func same(a, b api.Value) bool {
	return a.Kind == b.Kind && a.Num == b.Num && a.Text == b.Text && slices.EqualFunc(a.List, b.List, same)
}

// told is something as a failure tells it.
func told(x any) string {
	s := strconv.QuoteToASCII(fmt.Sprintf("%+v", x))
	if len(s) > 400 {
		s = fmt.Sprintf("%s and %d more", s[:400], len(s)-400)
	}
	return s
}

func plainWeight(v api.Value) int {
	w := 0
	for todo := []api.Value{v}; len(todo) > 0; {
		x := todo[len(todo)-1]
		todo = append(todo[:len(todo)-1], x.List...)
		w += 1 + len(x.Text)
	}
	return w
}

// orderly answers bytes of a value that are in order just as values are.
func orderly(v api.Value) []byte {
	b := binary.BigEndian.AppendUint64(nil, uint64(v.Kind)^1<<63)
	b = binary.BigEndian.AppendUint64(b, uint64(v.Num)^1<<63)
	b = append(b, strings.ReplaceAll(v.Text, "\x00", "\x00\x01")...)
	b = append(b, 0, 0)
	for _, x := range v.List {
		b = append(append(b, 1), orderly(x)...)
	}
	return append(b, 0)
}

func plainCompare(a, b api.Value) int { return bytes.Compare(orderly(a), orderly(b)) }

func plainFits(v api.Value, t string) bool {
	return plainShape(v, t) && plainWeight(v) <= 16384
}

func plainShape(v api.Value, t string) bool {
	s, is := shapes[t]
	if !is || v.Kind != s.kind {
		return false
	}
	switch s.kind {
	case 1:
		return v.Text == "" && len(v.List) == 0
	case 2:
		return v.Text == "" && len(v.List) == 0 && (v.Num == 0 || v.Num == 1)
	case 3:
		return v.Num == 0 && len(v.List) == 0 && len(v.Text) <= 256
	case 4:
		wrong := func(x api.Value) bool { return !plainShape(x, s.inner) }
		return v.Num == 0 && v.Text == "" && len(v.List) <= 64 && !slices.ContainsFunc(v.List, wrong)
	}
	if v.Num != 0 || v.Text != "" || len(v.List) > 128 || len(v.List)%2 == 1 {
		return false
	}
	for i, x := range v.List {
		if i%2 == 1 && !plainShape(x, s.inner) || i%2 == 0 && !plainShape(x, s.key) {
			return false
		}
	}
	return rising(v)
}

// rising tells whether a map has whole pairs, with rising keys.
func rising(m api.Value) bool {
	for i := 2; i < len(m.List); i += 2 {
		if plainCompare(m.List[i-2], m.List[i]) >= 0 {
			return false
		}
	}
	return len(m.List)%2 == 0
}

func plainLen(v api.Value) (int, api.Errno) {
	switch v.Kind {
	case 3:
		return len(v.Text), 0
	case 4:
		return len(v.List), 0
	case 5:
		return len(v.List) / 2, 0
	}
	return 0, api.ErrCode
}

// plainPlace answers where a key stands in a map's List, -1 if it doesn't.
func plainPlace(m, k api.Value) int {
	for i := 0; i < len(m.List); i += 2 {
		if same(m.List[i], k) {
			return i
		}
	}
	return -1
}

func plainAt(v, k api.Value) (api.Value, api.Errno) {
	if v.Kind == 4 && k.Kind == 1 {
		for i, x := range v.List {
			if i == k.Num {
				return x, 0
			}
		}
		return api.Value{}, api.ErrKey
	}
	if v.Kind != 5 {
		return api.Value{}, api.ErrCode
	}
	if i := plainPlace(v, k); i >= 0 {
		return v.List[i+1], 0
	}
	return api.Value{}, api.ErrKey
}

func plainHas(v, k api.Value) (bool, api.Errno) {
	if v.Kind != 5 {
		return false, api.ErrCode
	}
	return plainPlace(v, k) >= 0, 0
}

func plainPut(v, k, x api.Value) (api.Value, api.Errno) {
	_, e := plainAt(v, k)
	if e == api.ErrCode || e == api.ErrKey && v.Kind == 4 {
		return api.Value{}, e
	}
	if e == api.ErrKey && len(v.List) >= 128 {
		return api.Value{}, api.ErrSize
	}
	v.List = slices.Clone(v.List)
	switch {
	case v.Kind == 4:
		v.List[k.Num] = x
	case e == api.OK:
		v.List[plainPlace(v, k)+1] = x
	default:
		v.List = plainSorted(append(v.List, k, x))
	}
	return plainLight(v)
}

// plainSorted answers pairs by their keys' order.
func plainSorted(l []api.Value) []api.Value {
	pairs := slices.Collect(slices.Chunk(l, 2))
	slices.SortFunc(pairs, func(a, b []api.Value) int { return plainCompare(a[0], b[0]) })
	return slices.Concat(pairs...)
}

func plainLight(v api.Value) (api.Value, api.Errno) {
	if plainWeight(v) > 16384 {
		return api.Value{}, api.ErrSize
	}
	return v, 0
}

func plainDel(v, k api.Value) (api.Value, api.Errno) {
	if v.Kind != 5 {
		return api.Value{}, api.ErrCode
	}
	var rest []api.Value
	for i := 0; i < len(v.List); i += 2 {
		if !same(v.List[i], k) {
			rest = append(rest, v.List[i], v.List[i+1])
		}
	}
	v.List = rest
	return v, 0
}

func plainPush(v, x api.Value) (api.Value, api.Errno) {
	if v.Kind != 4 {
		return api.Value{}, api.ErrCode
	}
	if len(v.List) >= 64 {
		return api.Value{}, api.ErrSize
	}
	v.List = append(slices.Clone(v.List), x)
	return plainLight(v)
}

// writer lays a value's bytes: one of its numbers, counted from 0, in a longer form than it needs (none, if long is below 0).
type writer struct {
	b          []byte
	seen, long int
}

func (w *writer) number(n int) {
	w.b = binary.AppendUvarint(w.b, uint64(n))
	if w.seen == w.long {
		w.b[len(w.b)-1] |= 128
		w.b = append(w.b, 0)
	}
	w.seen++
}

func (w *writer) value(v api.Value) {
	switch v.Kind {
	case 1:
		sign, n := 0, v.Num
		if n < 0 {
			sign, n = 1, -1-n
		}
		w.number(sign)
		w.number(n)
	case 2:
		w.number(v.Num)
	case 3:
		w.number(len(v.Text))
		w.b = append(w.b, v.Text...)
	case 4:
		w.number(len(v.List))
	case 5:
		w.number(len(v.List) / 2)
	}
	for _, x := range v.List {
		w.value(x)
	}
}

func plainEncode(v api.Value, t string) ([]byte, api.Errno) {
	if !plainFits(v, t) {
		return nil, api.ErrArg
	}
	w := writer{long: -1}
	w.value(v)
	return w.b, 0
}

// plainDecode reads without a look at limits, as far as the bytes go: whether they are the value's is found by writing it anew.
func plainDecode(b []byte, t string) (api.Value, api.Errno) {
	if _, is := shapes[t]; !is {
		return api.Value{}, api.ErrArg
	}
	rest := b
	v, ok := plainRead(&rest, t)
	if !ok {
		return api.Value{}, api.ErrForm
	}
	if back, e := plainEncode(v, t); e != api.OK || !bytes.Equal(back, b) {
		return api.Value{}, api.ErrForm
	}
	return v, 0
}

func plainNumber(b *[]byte) (int, bool) {
	n, size := binary.Uvarint(*b)
	if size <= 0 || n > math.MaxInt64 {
		return 0, false
	}
	*b = (*b)[size:]
	return int(n), true
}

func plainRead(b *[]byte, t string) (api.Value, bool) {
	s := shapes[t]
	v := api.Value{Kind: s.kind}
	n, ok := plainNumber(b)
	if !ok {
		return v, false
	}
	var parts []string
	switch s.kind {
	case 1:
		v.Num, ok = plainNumber(b)
		if n == 1 {
			v.Num = -1 - v.Num
		}
		return v, ok && n <= 1
	case 2:
		v.Num = n
		return v, true
	case 3:
		if n > len(*b) {
			return v, false
		}
		v.Text, *b = string((*b)[:n]), (*b)[n:]
		return v, true
	case 4:
		parts = []string{s.inner}
	case 5:
		parts = []string{s.key, s.inner}
	}
	for range n {
		for _, part := range parts {
			x, ok := plainRead(b, part)
			if !ok {
				return v, false
			}
			v.List = append(v.List, x)
		}
	}
	return v, true
}

// Values by hand.

func number(n int) api.Value         { return api.Value{Kind: 1, Num: n} }
func truth(n int) api.Value          { return api.Value{Kind: 2, Num: n} }
func word(s string) api.Value        { return api.Value{Kind: 3, Text: s} }
func list(l ...api.Value) api.Value  { return api.Value{Kind: 4, List: l} }
func table(l ...api.Value) api.Value { return api.Value{Kind: 5, List: l} }
func times(x api.Value, n int) api.Value {
	return api.Value{Kind: 4, List: slices.Repeat([]api.Value{x}, n)}
}

func numbersTo(n int) []api.Value {
	var out []api.Value
	for i := range n {
		out = append(out, number(i))
	}
	return out
}

// tableTo is a map of so many pairs, with the keys 0, 2, 4 and so on.
func tableTo(n int, x api.Value) api.Value {
	m := table()
	for i := range n {
		m.List = append(m.List, number(2*i), x)
	}
	return m
}

// heavy is a list of texts, fit for a type, with this weight.
func heavy(weight int) api.Value {
	l := list()
	for left := weight - 1; left > 0; {
		n := min(left-1, 256)
		l.List = append(l.List, word(strings.Repeat("h", n)))
		left -= n + 1
	}
	return l
}

// nested is a value in so many lists.
func nested(x api.Value, n int) api.Value {
	for range n {
		x = list(x)
	}
	return x
}

var someNumbers = []int{math.MinInt64, math.MinInt64 + 1, -1 << 40, -16385, -129, -128, -127, -3, -2, -1, 0, 1, 2, 3, 63, 64, 65, 127, 128, 129, 255, 256, 300, 16383, 16384, 1 << 40, math.MaxInt64 - 1, math.MaxInt64}

// allBytes is a text of all 256 bytes.
var allBytes = func() string {
	var b []byte
	for i := range 256 {
		b = append(b, byte(i))
	}
	return string(b)
}()

var someTexts = []string{"", "\x00", "\x00\x00", "\x00\x01", "\x01", "\n", "0", "A", "a", "a\x00", "aa", "ab", "b", "\"\\", "\x7f", "\x80", "\xc3\xa4", "\xe2\x82\xac", "\xff", "\xff\xff", allBytes, strings.Repeat("x", 255), strings.Repeat("x", 256), strings.Repeat("x", 255) + "y"}

// oddKinds are kinds that no value has.
var oddKinds = []int{math.MinInt64, -1, 0, 6, 7, 256 + 4, math.MaxInt64}

func newRand(seed uint64) *rand.Rand { return rand.New(rand.NewPCG(seed, 9)) }

func pick[T any](r *rand.Rand, l []T) T { return l[r.IntN(len(l))] }

// maker makes values by chance.
type maker struct{ r *rand.Rand }

func (m maker) number() int {
	switch m.r.IntN(3) {
	case 0:
		return m.r.IntN(8) - 2
	case 1:
		return pick(m.r, someNumbers)
	}
	return int(m.r.Uint64()) >> m.r.IntN(64)
}

func (m maker) text() string {
	if m.r.IntN(2) == 0 {
		return pick(m.r, someTexts)
	}
	b := make([]byte, m.r.IntN(4))
	for i := range b {
		b[i] = pick(m.r, []byte{0, 1, 'a', 'b', 255})
	}
	return string(b)
}

// size is how many parts a list or a map has that stands so deep.
func (m maker) size(depth int) int {
	if depth == 0 && m.r.IntN(4) == 0 {
		return 60 + m.r.IntN(5)
	}
	return m.r.IntN(5)
}

// shaped makes a value of a type, but that it may be too heavy.
func (m maker) shaped(t string, depth int) api.Value {
	s := shapes[t]
	v := api.Value{Kind: s.kind}
	switch s.kind {
	case 1:
		v.Num = m.number()
	case 2:
		v.Num = m.r.IntN(2)
	case 3:
		v.Text = m.text()
	case 4:
		for range m.size(depth) {
			v.List = append(v.List, m.shaped(s.inner, depth+1))
		}
	case 5:
		for range m.size(depth) {
			if k := m.shaped(s.key, depth+1); plainPlace(v, k) < 0 {
				v.List = append(v.List, k, m.shaped(s.inner, depth+1))
			}
		}
		v.List = plainSorted(v.List)
	}
	return v
}

// fitting makes a value of a type.
func (m maker) fitting(t string) api.Value {
	for {
		if v := m.shaped(t, 0); plainFits(v, t) {
			return v
		}
	}
}

// wild makes a value of any form.
func (m maker) wild(depth int) api.Value {
	v := api.Value{Kind: 1 + m.r.IntN(5)}
	if m.r.IntN(8) == 0 {
		v.Kind = pick(m.r, oddKinds)
	}
	if m.r.IntN(2) == 0 {
		v.Num = m.number()
	}
	if m.r.IntN(3) == 0 {
		v.Text = m.text()
	}
	if depth > 0 && m.r.IntN(2) == 0 {
		for range m.r.IntN(5) {
			v.List = append(v.List, m.wild(depth-1))
		}
	}
	return v
}

// wildTable makes a map with rising keys of any form.
func (m maker) wildTable() api.Value {
	v := m.wild(0)
	v.Kind = 5
	for range m.r.IntN(70) {
		if k := m.wild(1); plainPlace(v, k) < 0 {
			v.List = append(v.List, k, m.wild(1))
		}
	}
	v.List = plainSorted(v.List)
	return v
}

// within answers the places of a value and of all that are in it.
func within(v *api.Value) []*api.Value {
	out := []*api.Value{v}
	for i := range v.List {
		out = append(out, within(&v.List[i])...)
	}
	return out
}

// spoil changes something somewhere in a value; it may fit its type still.
func (m maker) spoil(v *api.Value) {
	x := pick(m.r, within(v))
	switch m.r.IntN(7) {
	case 0:
		x.Kind = m.r.IntN(7)
	case 1:
		x.Num = m.number()
	case 2:
		x.Text = pick(m.r, []string{"", "a", strings.Repeat("z", 256), strings.Repeat("z", 257)})
	case 3:
		x.List = append(slices.Clone(x.List), m.wild(1))
	case 4:
		if len(x.List) > 0 {
			x.List = slices.Clone(x.List[:len(x.List)-1])
		}
	case 5:
		if len(x.List) > 1 {
			i, j := m.r.IntN(len(x.List)), m.r.IntN(len(x.List))
			x.List[i], x.List[j] = x.List[j], x.List[i]
		}
	case 6:
		if len(x.List) > 0 {
			x.List = append(slices.Clone(x.List), x.List[len(x.List)-1], x.List[0])
		}
	}
}

// near makes a value of a type or one that is nearly so.
func (m maker) near(t string) api.Value {
	v := m.shaped(t, 0)
	if m.r.IntN(2) == 0 {
		m.spoil(&v)
	}
	return v
}

// The model itself, at the chapter's examples.
func TestPlainModel(t *testing.T) {
	if len(allTypes) != 120 || len(shapes) != 120 || shapes["{text:[int]}"] != (shape{5, "text", "[int]"}) {
		t.Fatal(len(allTypes), len(shapes))
	}
	if v, e := plainPut(table(number(1), number(5), number(3), number(7)), number(2), number(6)); e != api.OK || !same(v, table(number(1), number(5), number(2), number(6), number(3), number(7))) {
		t.Error(told(v), e)
	}
	if b, e := plainEncode(list(word("a"), word("")), "[text]"); e != api.OK || string(b) != "\x02\x01a\x00" {
		t.Errorf("%x %d", b, e)
	}
	for _, w := range []int{1, 2, 3, 257, 258, 259, 260, 515, 16383, 16384, 16385} {
		if v := heavy(w); plainWeight(v) != w || !plainShape(v, "[text]") || plainFits(v, "[text]") != (w <= 16384) {
			t.Error(w, plainWeight(v))
		}
	}
}
