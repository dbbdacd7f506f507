package value

import (
	"cmp"
	"fmt"
	"math"
	"strings"
	"testing"

	"quern/api"
)

// P9.1: what is said of each call, by hand.

func wantValue(t *testing.T, what string, got, want api.Value) {
	t.Helper()
	if !same(got, want) {
		t.Errorf("%s: %s; not %s", what, told(got), told(want))
	}
}

// wantAnswer asks for a value and no error, or for an error and nothing beside it.
func wantAnswer(t *testing.T, what string, got api.Value, e api.Errno, want api.Value, err api.Errno) {
	t.Helper()
	if !same(got, want) || e != err {
		t.Errorf("%s: %s, %d; not %s, %d", what, told(got), e, told(want), err)
	}
}

func TestNumbersTruthsTexts(t *testing.T) {
	for _, n := range someNumbers {
		wantValue(t, fmt.Sprint("Int ", n), Int(n), number(n))
	}
	wantValue(t, "Bool", Bool(true), truth(1))
	wantValue(t, "Bool", Bool(false), truth(0))
	for _, s := range append(someTexts, strings.Repeat("x", 257), strings.Repeat("x", 70000)) {
		wantValue(t, "Text", Text(s), word(s))
	}
}

func TestPartsOfTypes(t *testing.T) {
	for _, s := range allTypes {
		want := shapes[s]
		of, is := List(s)
		if want.kind == 4 && (of != want.inner || !is) || want.kind != 4 && (of != "" || is) {
			t.Errorf("List of %s: %q, %v", s, of, is)
		}
		key, value, is := Map(s)
		if want.kind == 5 && (key != want.key || value != want.inner || !is) || want.kind != 5 && (key != "" || value != "" || is) {
			t.Errorf("Map of %s: %q, %q, %v", s, key, value, is)
		}
		wantValue(t, "Zero of "+s, Zero(s), api.Value{Kind: want.kind})
		if !Fits(Zero(s), s) {
			t.Errorf("Zero of %s doesn't fit", s)
		}
	}
	if of, is := List("[{int:[text]}]"); of != "{int:[text]}" || !is {
		t.Error(of, is)
	}
	if key, value, is := Map("{text:{int:{text:bool}}}"); key != "text" || value != "{int:{text:bool}}" || !is {
		t.Error(key, value, is)
	}
}

// A text that is no type has no parts and no values.
func TestNoTypes(t *testing.T) {
	values := []api.Value{{}, number(0), truth(1), word("a"), list(), list(number(1)), table(), table(number(1), number(2)), nested(number(1), 4), nested(list(), 3)}
	for _, s := range noTypes {
		if of, is := List(s); of != "" || is {
			t.Errorf("List of %s: %q, %v", told(s), of, is)
		}
		if key, value, is := Map(s); key != "" || value != "" || is {
			t.Errorf("Map of %s: %q, %q, %v", told(s), key, value, is)
		}
		wantValue(t, "Zero of "+told(s), Zero(s), api.Value{})
		for _, v := range values {
			if Fits(v, s) {
				t.Errorf("%s fits %s", told(v), told(s))
			}
			if b, e := Encode(v, s); len(b) != 0 || e != api.ErrArg {
				t.Errorf("Encode of %s, %s: %x, %d", told(v), told(s), b, e)
			}
		}
		for _, b := range []string{"", "\x00", "\x00\x00", "\x01\x00\x05", "\x05\x00", "\x80"} {
			v, e := Decode([]byte(b), s)
			wantAnswer(t, "Decode of "+told(s), v, e, api.Value{}, api.ErrArg)
		}
	}
}

func TestWeights(t *testing.T) {
	cases := []struct {
		v    api.Value
		want int
	}{
		{api.Value{}, 1}, {number(0), 1}, {number(math.MinInt64), 1}, {number(math.MaxInt64), 1}, {truth(1), 1}, {truth(0), 1},
		{word(""), 1}, {word("a"), 2}, {word("\x00"), 2}, {word("\xc3\xa4"), 3}, {word(allBytes), 257}, {word(strings.Repeat("x", 257)), 258},
		{list(), 1}, {api.Value{Kind: 4, List: []api.Value{}}, 1}, {table(), 1}, {list(number(7)), 2}, {list(list(list())), 3}, {list(word("ab"), word(""), number(3)), 6},
		{table(number(1), word("abc")), 6}, {table(word("k"), list(truth(1), truth(0))), 6}, {table(number(1)), 2},
		{times(number(1), 64), 65}, {times(number(1), 65), 66}, {tableTo(64, number(0)), 129}, {heavy(16384), 16384}, {heavy(16385), 16385},
		// Whatever the kind is.
		{api.Value{Kind: -1, Num: 5, Text: "abc", List: []api.Value{{}, {Text: "z"}}}, 7}, {api.Value{Kind: 1, Text: "abc"}, 4}, {api.Value{Kind: 3, List: []api.Value{{}}}, 2},
		{times(word(strings.Repeat("x", 1000)), 1000), 1001001},
	}
	for _, c := range cases {
		if w := Weight(c.v); w != c.want {
			t.Errorf("%s: %d, not %d", told(c.v), w, c.want)
		}
	}
}

// inOrder are values, each one below the next.
func inOrder() []api.Value {
	var out []api.Value
	with := func(v api.Value, text string, l ...api.Value) api.Value {
		v.Text, v.List = text, l
		return v
	}
	for _, kind := range []int{math.MinInt64, -1, 0, 1, 2, 3, 4, 5, 6, math.MaxInt64} {
		for _, n := range []int{math.MinInt64, -1, 0, 1, math.MaxInt64} {
			v := api.Value{Kind: kind, Num: n}
			for _, s := range []string{"", "\x00", "a", "ab", "b"} {
				out = append(out, with(v, s),
					with(v, s, api.Value{Kind: -5, Num: 9, Text: "z"}), with(v, s, api.Value{}), with(v, s, number(-7)), with(v, s, number(1)),
					with(v, s, number(1), number(1)), with(v, s, number(1), number(1), number(1)), with(v, s, number(1), number(2)), with(v, s, number(1), word("")),
					with(v, s, number(2)), with(v, s, number(2), number(1)), with(v, s, truth(0)), with(v, s, truth(1)),
					with(v, s, word("a")), with(v, s, word("a"), number(1)), with(v, s, word("aa")), with(v, s, word("b")),
					with(v, s, list()), with(v, s, list(), list()), with(v, s, list(number(5))), with(v, s, list(list())), with(v, s, list(list(), list())), with(v, s, table()))
			}
		}
	}
	return out
}

// wantRising asks that each value is below all behind it.
func wantRising(t *testing.T, l []api.Value) {
	t.Helper()
	for i := range l {
		for j := range l {
			if got, want := Compare(l[i], l[j]), cmp.Compare(i, j); got != want {
				t.Fatalf("%s and %s: %d, not %d", told(l[i]), told(l[j]), got, want)
			}
		}
	}
}

func TestOrder(t *testing.T) {
	wantRising(t, inOrder())
	var numbers, texts, lists []api.Value
	for _, n := range someNumbers {
		numbers = append(numbers, number(n))
	}
	wantRising(t, numbers)
	for _, s := range []string{"", "\x00", "\x00\x00", "\x00\x01", "\x00\xff", "\x01", "A", "Z", "a", "a\x00", "aa", "aaa", "ab", "b", "ba", "\x7f", "\x80", "\xc3\xa4", "\xe2\x82\xac", "\xff", "\xff\x00", "\xff\xff"} {
		texts = append(texts, word(s))
	}
	wantRising(t, texts)
	// Lists that begin alike; where they first differ is what counts, however long they are.
	for i := range 20 {
		lists = append(lists, list(numbersTo(i)...))
	}
	lists = append(lists, list(number(0), number(2)), list(number(1)), list(number(1), number(-5)), list(number(1), number(0)), list(number(2)), list(number(2), list()), list(number(2), list(number(9))), list(number(3), number(9)))
	wantRising(t, lists)
	for i := range lists {
		lists[i].Kind = api.VMap
	}
	wantRising(t, lists)
}

func TestOrderOfEachPairOfKinds(t *testing.T) {
	// A greater kind is above, whatever stands in the value.
	low := api.Value{Num: math.MinInt64}
	high := api.Value{Num: math.MaxInt64, Text: "zzz", List: []api.Value{list(number(9)), table()}}
	for a := -1; a <= 7; a++ {
		for b := a + 1; b <= 7; b++ {
			x, y := high, low
			x.Kind, y.Kind = a, b
			if Compare(x, y) != -1 || Compare(y, x) != 1 || Compare(x, x) != 0 || Compare(y, y) != 0 {
				t.Errorf("kinds %d and %d: %d, %d", a, b, Compare(x, y), Compare(y, x))
			}
		}
	}
	// Num is ahead of Text, Text ahead of List.
	a, b := api.Value{Kind: 4, Num: 1, Text: "b", List: []api.Value{number(9)}}, api.Value{Kind: 4, Num: 2, Text: "a"}
	if Compare(a, b) != -1 || Compare(b, a) != 1 {
		t.Error("Num is ahead of Text")
	}
	b.Num = 1
	if Compare(a, b) != 1 || Compare(b, a) != -1 {
		t.Error("Text is ahead of List")
	}
}

func TestNilAndEmptyLists(t *testing.T) {
	for _, kind := range []int{0, 1, 2, 3, 4, 5, 6} {
		a, b := api.Value{Kind: kind}, api.Value{Kind: kind, List: []api.Value{}}
		if Compare(a, b) != 0 || Compare(b, a) != 0 || Weight(a) != Weight(b) || !same(Copy(a), Copy(b)) {
			t.Errorf("kind %d: nil and empty are not the same", kind)
		}
		for _, s := range allTypes {
			if Fits(a, s) != Fits(b, s) || Fits(a, s) != (shapes[s].kind == kind) {
				t.Errorf("%s: %v, %v", s, Fits(a, s), Fits(b, s))
			}
			x, e := Encode(a, s)
			y, err := Encode(b, s)
			if string(x) != string(y) || e != err {
				t.Errorf("%s: %x, %d and %x, %d", s, x, e, y, err)
			}
		}
	}
	v, e := Push(api.Value{Kind: 4, List: []api.Value{}}, number(1))
	wantAnswer(t, "Push", v, e, list(number(1)), 0)
	v, e = Put(api.Value{Kind: 5, List: []api.Value{}}, number(1), number(2))
	wantAnswer(t, "Put", v, e, table(number(1), number(2)), 0)
	for _, s := range []string{"int", "[int]", "text"} {
		v, e = Decode(nil, s)
		wantAnswer(t, "Decode of nil", v, e, api.Value{}, api.ErrForm)
		v, e = Decode([]byte{}, s)
		wantAnswer(t, "Decode of nothing", v, e, api.Value{}, api.ErrForm)
	}
}

// fitCase is a value and a type, and whether it is one of it.
type fitCase struct {
	v    api.Value
	t    string
	want bool
}

func fitCases() []fitCase {
	long, longer := strings.Repeat("x", 256), strings.Repeat("x", 257)
	withNum := func(v api.Value) api.Value { v.Num = 1; return v }
	withText := func(v api.Value) api.Value { v.Text = "a"; return v }
	withList := func(v api.Value) api.Value { v.List = []api.Value{number(0)}; return v }
	return []fitCase{
		{number(0), "int", true}, {number(-1), "int", true}, {number(1), "int", true}, {number(math.MinInt64), "int", true}, {number(math.MaxInt64), "int", true},
		{truth(0), "bool", true}, {truth(1), "bool", true}, {truth(2), "bool", false}, {truth(-1), "bool", false}, {truth(math.MaxInt64), "bool", false}, {truth(math.MinInt64), "bool", false}, {truth(256), "bool", false}, {truth(1 << 32), "bool", false},
		{word(""), "text", true}, {word("\x00"), "text", true}, {word(allBytes), "text", true}, {word(long), "text", true}, {word(longer), "text", false}, {word(strings.Repeat("x", 16384)), "text", false},
		{number(0), "bool", false}, {number(1), "bool", false}, {truth(0), "int", false}, {truth(1), "int", false}, {word(""), "int", false}, {number(0), "text", false},
		{api.Value{}, "int", false}, {api.Value{}, "bool", false}, {api.Value{}, "text", false}, {api.Value{}, "[int]", false}, {api.Value{}, "{int:int}", false}, {api.Value{Kind: 6}, "{int:int}", false}, {api.Value{Kind: -1}, "int", false},

		// What the kind doesn't have.
		{withText(number(1)), "int", false}, {withList(number(1)), "int", false}, {withText(truth(1)), "bool", false}, {withList(truth(1)), "bool", false},
		{withNum(word("a")), "text", false}, {withList(word("a")), "text", false}, {withNum(list()), "[int]", false}, {withText(list()), "[int]", false},
		{withNum(table()), "{int:int}", false}, {withText(table()), "{int:int}", false},
		{list(withText(number(1))), "[int]", false}, {list(number(1), withList(number(1))), "[int]", false}, {list(withNum(list())), "[[int]]", false}, {list(withText(table())), "[{int:int}]", false},
		{table(withText(number(1)), number(1)), "{int:int}", false}, {table(withNum(word("a")), number(1)), "{text:int}", false}, {table(number(1), withList(word("a"))), "{int:text}", false},

		// Lists.
		{list(), "[int]", true}, {list(), "[[{text:bool}]]", true}, {list(number(1)), "[int]", true}, {list(number(3), number(1), number(3)), "[int]", true}, {list(word("a"), word("")), "[text]", true}, {list(truth(1)), "[bool]", true},
		{list(truth(1)), "[int]", false}, {list(number(1), truth(1)), "[int]", false}, {list(truth(1), number(1)), "[int]", false}, {list(truth(2)), "[bool]", false}, {list(word(longer)), "[text]", false}, {list(word(long)), "[text]", true},
		{times(number(1), 63), "[int]", true}, {times(number(1), 64), "[int]", true}, {times(number(1), 65), "[int]", false}, {times(number(1), 128), "[int]", false}, {list(times(number(1), 65)), "[[int]]", false}, {list(times(number(1), 64)), "[[int]]", true},
		{list(), "{int:int}", false}, {list(number(1), number(2)), "{int:int}", false}, {table(), "[int]", false}, {table(number(1), number(2)), "[int]", false},

		// Maps.
		{table(), "{int:int}", true}, {table(), "{text:[int]}", true}, {table(number(1), word("a")), "{int:text}", true}, {table(word("a"), number(1)), "{text:int}", true}, {table(word(""), number(1)), "{text:int}", true},
		{table(word("a"), number(1)), "{int:int}", false}, {table(number(1), number(1)), "{text:int}", false}, {table(number(1), truth(1)), "{int:int}", false}, {table(truth(0), number(1)), "{int:int}", false}, {table(word(longer), number(1)), "{text:int}", false}, {table(word(long), number(1)), "{text:int}", true}, {table(number(1), word(longer)), "{int:text}", false},
		{table(number(1)), "{int:int}", false}, {table(number(1), number(1), number(2)), "{int:int}", false}, {table(number(1), number(2), number(3), number(4), number(5)), "{int:int}", false},
		{table(number(1), number(5), number(2), number(5)), "{int:int}", true}, {table(number(-1), number(5), number(0), number(4), number(1), number(3)), "{int:int}", true}, {table(number(math.MinInt64), number(5), number(math.MaxInt64), number(5)), "{int:int}", true},
		{table(number(2), number(5), number(1), number(5)), "{int:int}", false}, {table(number(1), number(5), number(1), number(6)), "{int:int}", false}, {table(number(1), number(5), number(1), number(5)), "{int:int}", false}, {table(number(math.MaxInt64), number(5), number(math.MinInt64), number(5)), "{int:int}", false},
		{table(number(1), number(5), number(3), number(5), number(2), number(5)), "{int:int}", false}, {table(number(1), number(5), number(3), number(5), number(3), number(5)), "{int:int}", false}, {table(number(2), number(1), number(3), number(1), number(1), number(1)), "{int:int}", false},
		{table(word("a"), number(1), word("aa"), number(1), word("b"), number(1)), "{text:int}", true}, {table(word("b"), number(1), word("aa"), number(1)), "{text:int}", false}, {table(word("aa"), number(1), word("a"), number(1)), "{text:int}", false}, {table(word("\x7f"), number(1), word("\x80"), number(1)), "{text:int}", true}, {table(word("\x80"), number(1), word("\x7f"), number(1)), "{text:int}", false},
		{tableTo(63, number(1)), "{int:int}", true}, {tableTo(64, number(1)), "{int:int}", true}, {tableTo(65, number(1)), "{int:int}", false}, {tableTo(128, number(1)), "{int:int}", false}, {table(number(1), tableTo(65, number(1))), "{int:{int:int}}", false}, {table(number(1), tableTo(64, number(1))), "{int:{int:int}}", true},
		{table(number(1), table(number(2), number(0), number(1), number(0))), "{int:{int:int}}", false}, {list(table(number(1), number(0), number(1), number(0))), "[{int:int}]", false},

		// Depth.
		{nested(number(1), 3), "[[[int]]]", true}, {nested(number(1), 2), "[[[int]]]", false}, {nested(number(1), 4), "[[[int]]]", false}, {nested(number(1), 4), "[[[[int]]]]", false}, {nested(list(), 2), "[[[int]]]", true}, {nested(list(), 3), "[[[int]]]", false}, {nested(list(), 3), "[[[[int]]]]", false},
		{table(word("a"), table(word("b"), table(word("c"), word("d")))), "{text:{text:{text:text}}}", true}, {table(word("a"), table(word("b"), table(word("c"), table()))), "{text:{text:{text:{text:text}}}}", false},

		// Weight.
		{heavy(16383), "[text]", true}, {heavy(16384), "[text]", true}, {heavy(16385), "[text]", false}, {list(heavy(16383)), "[[text]]", true}, {list(heavy(16384)), "[[text]]", false},
		{table(number(1), heavy(16382)), "{int:[text]}", true}, {table(number(1), heavy(16383)), "{int:[text]}", false}, {table(word(long), heavy(16384-1-257)), "{text:[text]}", true}, {table(word(long), heavy(16384-257)), "{text:[text]}", false},
		{list(heavy(8192), heavy(8191)), "[[text]]", true}, {list(heavy(8192), heavy(8192)), "[[text]]", false}, {times(times(number(1), 64), 64), "[[int]]", true},
		{list(times(times(number(1), 64), 64), times(times(number(1), 64), 64), times(times(number(1), 64), 64)), "[[[int]]]", true},
		{times(times(times(number(1), 64), 64), 4), "[[[int]]]", false}, {times(times(times(number(1), 64), 64), 64), "[[[int]]]", false},
	}
}

func TestFits(t *testing.T) {
	for _, c := range fitCases() {
		if Fits(c.v, c.t) != c.want || plainFits(c.v, c.t) != c.want {
			t.Errorf("%s, %s: %v; not %v", told(c.v), c.t, Fits(c.v, c.t), c.want)
		}
	}
}

// A value that isn't empty fits the one type that it is of.
func TestFitsOneType(t *testing.T) {
	m := maker{newRand(1)}
	var full func(s string) api.Value
	full = func(s string) api.Value {
		switch x := shapes[s]; x.kind {
		case 4:
			return list(full(x.inner), full(x.inner))
		case 5:
			return table(m.shaped(x.key, 0), full(x.inner))
		}
		return m.shaped(s, 0)
	}
	for _, s := range allTypes {
		v := full(s)
		for _, other := range allTypes {
			if Fits(v, other) != (s == other) {
				t.Errorf("%s of the type %s, and %s: %v", told(v), s, other, Fits(v, other))
			}
		}
	}
}

func TestCopyIsTheSame(t *testing.T) {
	for _, v := range inOrder() {
		if !same(Copy(v), v) {
			t.Fatalf("%s: %s", told(v), told(Copy(v)))
		}
	}
	for _, c := range fitCases() {
		wantValue(t, "Copy", Copy(c.v), c.v)
	}
}

func TestLengths(t *testing.T) {
	for s, v := range map[string]api.Value{"a text": word("abc"), "three elements": list(number(1), number(1), number(1)), "three pairs": tableTo(3, number(9))} {
		if n, e := Len(v); n != 3 || e != api.OK {
			t.Errorf("%s: %d, %d", s, n, e)
		}
	}
	cases := []struct {
		v    api.Value
		want int
	}{
		{word(""), 0}, {word("\xc3\xa4"), 2}, {word(allBytes), 256}, {word(strings.Repeat("x", 257)), 257}, {list(), 0}, {list(list(number(1), number(2))), 1}, {times(number(1), 64), 64}, {times(number(1), 65), 65}, {times(word("ab"), 1000), 1000},
		{table(), 0}, {tableTo(1, word("abc")), 1}, {tableTo(64, number(1)), 64}, {tableTo(65, number(1)), 65},
		// The kind alone is looked at.
		{api.Value{Kind: 3, Num: 7, Text: "ab", List: []api.Value{{}}}, 2}, {api.Value{Kind: 4, Num: 7, Text: "ab", List: []api.Value{{}}}, 1}, {api.Value{Kind: 5, Num: 7, Text: "abc", List: []api.Value{{}, {}}}, 1},
	}
	for _, c := range cases {
		if n, e := Len(c.v); n != c.want || e != api.OK {
			t.Errorf("%s: %d, %d; not %d", told(c.v), n, e, c.want)
		}
	}
	full := api.Value{Num: 7, Text: "abc", List: []api.Value{{}, {}}}
	for _, kind := range append(oddKinds, 1, 2) {
		full.Kind = kind
		for _, v := range []api.Value{full, {Kind: kind}} {
			if n, e := Len(v); n != 0 || e != api.ErrCode {
				t.Errorf("%s: %d, %d", told(v), n, e)
			}
		}
	}
}

// eachKind are values of each kind, that of none too, with something in them.
func eachKind() []api.Value {
	out := []api.Value{number(0), number(1), number(-1), truth(0), truth(1), word(""), word("a"), list(), list(number(0)), list(number(0), number(1), number(2)), list(word("a"), list()), table(), table(number(0), number(1)), table(number(0), word("a"), number(1), word("b")), table(word(""), number(1), word("a"), list(number(2))), tableTo(7, truth(1))}
	for _, kind := range oddKinds {
		out = append(out, api.Value{Kind: kind}, api.Value{Kind: kind, Num: 1, Text: "a", List: []api.Value{number(0), number(1)}})
	}
	return out
}

// wantAlike asks that all that can be done to a value is what the plain model does: of a map whose keys don't rise only that it ends.
func wantAlike(t *testing.T, v, k, x api.Value) {
	t.Helper()
	n, lenErr := Len(v)
	at, atErr := At(v, k)
	has, hasErr := Has(v, k)
	put, putErr := Put(v, k, x)
	del, delErr := Del(v, k)
	push, pushErr := Push(v, x)
	if v.Kind == 5 && !rising(v) {
		return
	}
	fail := func(call string, got any, e api.Errno, want any, err api.Errno) {
		t.Helper()
		t.Errorf("%s of %s, %s, %s: %s, %d; not %s, %d", call, told(v), told(k), told(x), told(got), e, told(want), err)
	}
	if want, err := plainLen(v); n != want || lenErr != err {
		fail("Len", n, lenErr, want, err)
	}
	if want, err := plainHas(v, k); has != want || hasErr != err {
		fail("Has", has, hasErr, want, err)
	}
	if want, err := plainAt(v, k); !same(at, want) || atErr != err {
		fail("At", at, atErr, want, err)
	}
	if want, err := plainPut(v, k, x); !same(put, want) || putErr != err {
		fail("Put", put, putErr, want, err)
	}
	if want, err := plainDel(v, k); !same(del, want) || delErr != err {
		fail("Del", del, delErr, want, err)
	}
	if want, err := plainPush(v, x); !same(push, want) || pushErr != err {
		fail("Push", push, pushErr, want, err)
	}
}

func TestEachKindWithEachKind(t *testing.T) {
	for _, v := range eachKind() {
		for _, k := range eachKind() {
			for _, x := range []api.Value{{}, number(5), word("new"), list(number(1)), table(number(1), truth(0))} {
				wantAlike(t, v, k, x)
			}
		}
	}
}

func TestListsByPlaces(t *testing.T) {
	l := list(word("a"), word("b"), word("c"))
	x := word("x")
	put := map[int]api.Value{0: list(x, word("b"), word("c")), 1: list(word("a"), x, word("c")), 2: list(word("a"), word("b"), x)}
	for _, n := range append(someNumbers, 4, 5) {
		v, e := At(l, number(n))
		if n < 0 || n > 2 {
			wantAnswer(t, fmt.Sprint("At ", n), v, e, api.Value{}, api.ErrKey)
			v, e = Put(l, number(n), x)
			wantAnswer(t, fmt.Sprint("Put at ", n), v, e, api.Value{}, api.ErrKey)
			continue
		}
		wantAnswer(t, fmt.Sprint("At ", n), v, e, l.List[n], 0)
		v, e = Put(l, number(n), x)
		wantAnswer(t, fmt.Sprint("Put at ", n), v, e, put[n], 0)
	}
	for _, empty := range []api.Value{list(), {Kind: 4, List: []api.Value{}}} {
		for _, n := range []int{-1, 0, 1} {
			v, e := At(empty, number(n))
			wantAnswer(t, "At of no elements", v, e, api.Value{}, api.ErrKey)
			v, e = Put(empty, number(n), x)
			wantAnswer(t, "Put of no elements", v, e, api.Value{}, api.ErrKey)
		}
	}
	full := list(numbersTo(64)...)
	for _, n := range []int{0, 63} {
		v, e := At(full, number(n))
		wantAnswer(t, "At of 64", v, e, number(n), 0)
	}
	v, e := At(full, number(64))
	wantAnswer(t, "At of 64", v, e, api.Value{}, api.ErrKey)
	// A place must be a VInt; whatever else it has plays no part.
	for _, k := range []api.Value{{}, truth(0), truth(1), word("0"), word(""), list(number(0)), table(), {Kind: 6}, {Kind: -1}} {
		v, e := At(l, k)
		wantAnswer(t, "At "+told(k), v, e, api.Value{}, api.ErrCode)
		v, e = Put(l, k, x)
		wantAnswer(t, "Put at "+told(k), v, e, api.Value{}, api.ErrCode)
		if is, e := Has(l, k); is || e != api.ErrCode {
			t.Errorf("Has of a list: %v, %d", is, e)
		}
		v, e = Del(l, k)
		wantAnswer(t, "Del of a list", v, e, api.Value{}, api.ErrCode)
	}
	v, e = At(l, api.Value{Kind: 1, Num: 1, Text: "q", List: []api.Value{{}}})
	wantAnswer(t, "At", v, e, word("b"), 0)
}

func TestMapsByKeys(t *testing.T) {
	m := table(number(1), word("a"), number(3), word("b"), number(5), word("c"))
	x := word("x")
	there := map[int]int{1: 0, 3: 2, 5: 4}
	for n := -1; n <= 7; n++ {
		k := number(n)
		place, is := there[n]
		v, e := At(m, k)
		if is {
			wantAnswer(t, fmt.Sprint("At ", n), v, e, m.List[place+1], 0)
		} else {
			wantAnswer(t, fmt.Sprint("At ", n), v, e, api.Value{}, api.ErrKey)
		}
		if has, e := Has(m, k); has != is || e != api.OK {
			t.Errorf("Has %d: %v, %d", n, has, e)
		}
	}
	puts := []struct {
		n    int
		want api.Value
	}{
		{0, table(number(0), x, number(1), word("a"), number(3), word("b"), number(5), word("c"))},
		{1, table(number(1), x, number(3), word("b"), number(5), word("c"))},
		{2, table(number(1), word("a"), number(2), x, number(3), word("b"), number(5), word("c"))},
		{3, table(number(1), word("a"), number(3), x, number(5), word("c"))},
		{4, table(number(1), word("a"), number(3), word("b"), number(4), x, number(5), word("c"))},
		{5, table(number(1), word("a"), number(3), word("b"), number(5), x)},
		{6, table(number(1), word("a"), number(3), word("b"), number(5), word("c"), number(6), x)},
	}
	for _, c := range puts {
		v, e := Put(m, number(c.n), x)
		wantAnswer(t, fmt.Sprint("Put at ", c.n), v, e, c.want, 0)
	}
	dels := map[int]api.Value{0: m, 1: table(number(3), word("b"), number(5), word("c")), 2: m, 3: table(number(1), word("a"), number(5), word("c")), 4: m, 5: table(number(1), word("a"), number(3), word("b")), 6: m}
	for n, want := range dels {
		v, e := Del(m, number(n))
		wantAnswer(t, fmt.Sprint("Del ", n), v, e, want, 0)
	}
	v, e := Del(table(number(1), x), number(1))
	wantAnswer(t, "Del of the only one", v, e, table(), 0)
	v, e = Del(table(), number(1))
	wantAnswer(t, "Del of none", v, e, table(), 0)
}

// Keys may be of any kind, and of several: they are the same or not as Compare says it, to the depths.
func TestMapsOfAnyKeys(t *testing.T) {
	m := table()
	keys := inOrder()
	for i, k := range keys {
		if i%2 == 1 {
			m.List = append(m.List, k, number(i))
		}
	}
	for i, k := range keys {
		has, e := Has(m, k)
		if has != (i%2 == 1) || e != api.OK {
			t.Errorf("Has %s: %v, %d", told(k), has, e)
		}
		v, e := At(m, k)
		if i%2 == 1 {
			wantAnswer(t, "At "+told(k), v, e, number(i), 0)
		} else {
			wantAnswer(t, "At "+told(k), v, e, api.Value{}, api.ErrKey)
		}
	}
	odd := api.Value{Kind: 1, Num: 3, Text: "t"}
	two := table(number(3), word("a"), odd, word("b"))
	for k, want := range map[string]api.Value{"a": number(3), "b": odd} {
		v, e := At(two, want)
		wantAnswer(t, "At", v, e, word(k), 0)
		v, e = Del(two, want)
		if e != api.OK || len(v.List) != 2 || Compare(v.List[0], want) == 0 {
			t.Errorf("Del: %s, %d", told(v), e)
		}
	}
}

func TestNoMaps(t *testing.T) {
	for _, v := range eachKind() {
		if v.Kind == 5 {
			continue
		}
		for _, k := range eachKind() {
			if is, e := Has(v, k); is || e != api.ErrCode {
				t.Errorf("Has of %s: %v, %d", told(v), is, e)
			}
			d, e := Del(v, k)
			wantAnswer(t, "Del of "+told(v), d, e, api.Value{}, api.ErrCode)
			if v.Kind == 4 {
				continue
			}
			d, e = At(v, k)
			wantAnswer(t, "At of "+told(v), d, e, api.Value{}, api.ErrCode)
			// ErrCode goes ahead of what is too heavy.
			d, e = Put(v, k, word(strings.Repeat("x", 20000)))
			wantAnswer(t, "Put of "+told(v), d, e, api.Value{}, api.ErrCode)
			d, e = Push(v, k)
			wantAnswer(t, "Push of "+told(v), d, e, api.Value{}, api.ErrCode)
		}
	}
	d, e := Push(table(), number(1))
	wantAnswer(t, "Push of a map", d, e, api.Value{}, api.ErrCode)
	d, e = Push(tableTo(64, number(1)), word(strings.Repeat("x", 20000)))
	wantAnswer(t, "Push of a map", d, e, api.Value{}, api.ErrCode)
}

func TestPushes(t *testing.T) {
	v := list()
	for i := range 64 {
		next, e := Push(v, number(i))
		wantAnswer(t, "Push", next, e, list(numbersTo(i+1)...), 0)
		v = next
	}
	for _, x := range eachKind() {
		got, e := Push(v, x)
		wantAnswer(t, "Push of 64", got, e, api.Value{}, api.ErrSize)
		got, e = Push(list(), x)
		wantAnswer(t, "Push", got, e, list(x), 0)
	}
	got, e := Push(times(number(1), 65), number(1))
	wantAnswer(t, "Push of 65", got, e, api.Value{}, api.ErrSize)
	got, e = Push(times(number(1), 63), number(2))
	wantAnswer(t, "Push of 63", got, e, list(append(times(number(1), 63).List, number(2))...), 0)
}

// bulky is a list of one text, too long for a type, with this weight.
func bulky(weight int) api.Value { return list(word(strings.Repeat("b", weight-2))) }

// withOne is a list with one more.
func withOne(l, x api.Value) api.Value { return list(append(append([]api.Value{}, l.List...), x)...) }

func TestPushWeights(t *testing.T) {
	cases := []struct {
		v, x api.Value
		fine bool
	}{
		{bulky(16382), word("a"), true}, {bulky(16383), word(""), true}, {bulky(16383), number(1), true}, {bulky(16383), word("a"), false}, {bulky(16384), word(""), false}, {bulky(16384), number(1), false}, {bulky(16385), number(1), false}, {bulky(10000), heavy(6384), true}, {bulky(10000), heavy(6385), false},
		{list(), word(strings.Repeat("x", 16382)), true}, {list(), word(strings.Repeat("x", 16383)), false}, {list(), heavy(16383), true}, {list(), heavy(16384), false}, {times(list(), 63), heavy(16384 - 64), true}, {times(list(), 63), heavy(16385 - 64), false},
		{list(), times(number(1), 16382), true}, {list(), times(number(1), 16383), false}, {list(), nested(number(1), 16382), true}, {list(), nested(number(1), 16383), false},
		{list(), table(word("k"), heavy(16380)), true}, {list(), table(word("k"), heavy(16381)), false},
	}
	for _, c := range cases {
		v, e := Push(c.v, c.x)
		if c.fine {
			wantAnswer(t, "Push", v, e, withOne(c.v, c.x), 0)
		} else {
			wantAnswer(t, "Push", v, e, api.Value{}, api.ErrSize)
		}
	}
	// What stands in the list that a list doesn't have weighs too.
	odd := api.Value{Kind: 4, Text: strings.Repeat("x", 16382)}
	v, e := Push(odd, number(1))
	wantAnswer(t, "Push", v, e, api.Value{Kind: 4, Text: odd.Text, List: []api.Value{number(1)}}, 0)
	v, e = Push(odd, word("a"))
	wantAnswer(t, "Push", v, e, api.Value{}, api.ErrSize)
}

func TestPutsOfManyPairs(t *testing.T) {
	x := word("x")
	for _, n := range []int{63, 64, 65, 70} {
		m := tableTo(n, number(7))
		for k := -1; k <= 2*n; k++ {
			v, e := Put(m, number(k), x)
			if k%2 == 0 && k < 2*n { // it has this key: how many pairs there are plays no part
				want := tableTo(n, number(7))
				want.List[k+1] = x
				wantAnswer(t, fmt.Sprint("Put of ", n, " at ", k), v, e, want, 0)
			} else if n >= 64 {
				wantAnswer(t, fmt.Sprint("Put of ", n, " at ", k), v, e, api.Value{}, api.ErrSize)
			} else if at, _ := At(v, number(k)); e != api.OK || len(v.List) != 128 || !rising(v) || !same(at, x) {
				t.Errorf("Put of %d at %d: %s, %d", n, k, told(v), e)
			}
		}
	}
	// A list of too many elements may be put into.
	l := times(number(1), 70)
	v, e := Put(l, number(69), x)
	want := times(number(1), 70)
	want.List[69] = x
	wantAnswer(t, "Put of 70 elements", v, e, want, 0)
}

func TestPutWeights(t *testing.T) {
	text := func(n int) api.Value { return word(strings.Repeat("y", n)) }
	cases := []struct {
		v, k, x api.Value
		fine    bool
	}{
		// In the place of another one, whose weight is gone.
		{list(heavy(16383)), number(0), heavy(16383), true}, {list(heavy(16383)), number(0), heavy(16384), false}, {list(heavy(16382), number(1)), number(1), text(0), true}, {list(heavy(16382), number(1)), number(1), text(1), false}, {list(heavy(16382), number(1)), number(0), text(1), true},
		{list(number(1)), number(0), text(16382), true}, {list(number(1)), number(0), text(16383), false}, {heavy(16384), number(3), text(256), true}, {heavy(16384), number(3), text(257), false}, {heavy(16385), number(3), text(255), true}, {heavy(16385), number(3), text(256), false}, {heavy(20000), number(3), number(1), false},
		{table(number(1), heavy(16382)), number(1), heavy(16382), true}, {table(number(1), heavy(16382)), number(1), heavy(16383), false}, {table(number(1), heavy(16380), number(2), number(3)), number(2), text(0), true}, {table(number(1), heavy(16380), number(2), number(3)), number(2), text(1), false},
		// A new pair: the key weighs too.
		{table(), number(1), heavy(16382), true}, {table(), number(1), heavy(16383), false}, {table(), text(256), heavy(16384 - 258), true}, {table(), text(256), heavy(16384 - 257), false}, {table(), text(16381), number(1), true}, {table(), text(16382), number(1), false},
		{table(number(1), heavy(16380)), number(2), number(5), true}, {table(number(1), heavy(16380)), number(2), text(1), false}, {table(number(1), heavy(16380)), text(1), number(1), false}, {table(number(1), heavy(16381)), number(0), number(5), false},
	}
	for _, c := range cases {
		v, e := Put(c.v, c.k, c.x)
		if !c.fine {
			wantAnswer(t, "Put", v, e, api.Value{}, api.ErrSize)
			continue
		}
		at, err := At(v, c.k)
		if e != api.OK || err != api.OK || !same(at, c.x) || Weight(v) > 16384 {
			t.Errorf("Put of %s at %s: %d, %d", told(c.v), told(c.k), e, err)
		}
	}
}

// Where several errors apply.
func TestWhichErrorFirst(t *testing.T) {
	big := word(strings.Repeat("x", 20000))
	v, e := Put(heavy(20000), number(-1), big)
	wantAnswer(t, "a list, no such place, too heavy", v, e, api.Value{}, api.ErrKey)
	v, e = Put(heavy(20000), truth(0), big)
	wantAnswer(t, "a list, no place, too heavy", v, e, api.Value{}, api.ErrCode)
	v, e = Put(times(number(1), 70), number(70), big)
	wantAnswer(t, "a long list, no such place, too heavy", v, e, api.Value{}, api.ErrKey)
	v, e = Put(tableTo(64, number(1)), number(1), big)
	wantAnswer(t, "a full map, too heavy", v, e, api.Value{}, api.ErrSize)
	v, e = Put(word("a"), number(0), big)
	wantAnswer(t, "a text, too heavy", v, e, api.Value{}, api.ErrCode)
	// Del has no limit: what is too heavy or too long ahead of it may be so behind it.
	m := table(number(1), heavy(20000), number(2), number(3))
	v, e = Del(m, number(2))
	wantAnswer(t, "Del of a heavy map", v, e, table(number(1), heavy(20000)), 0)
	v, e = Del(tableTo(70, number(1)), number(138))
	wantAnswer(t, "Del of a long map", v, e, tableTo(69, number(1)), 0)
	v, e = Del(tableTo(70, number(1)), number(1))
	wantAnswer(t, "Del of a long map", v, e, tableTo(70, number(1)), 0)
	v, e = At(m, number(1))
	wantAnswer(t, "At of a heavy map", v, e, heavy(20000), 0)
}

// What a list or a map shouldn't have stays.
func TestOddFieldsStay(t *testing.T) {
	l := api.Value{Kind: 4, Num: 7, Text: "t", List: []api.Value{number(1)}}
	m := api.Value{Kind: 5, Num: -7, Text: "u", List: []api.Value{number(1), number(2)}}
	v, e := Put(l, number(0), number(5))
	wantAnswer(t, "Put", v, e, api.Value{Kind: 4, Num: 7, Text: "t", List: []api.Value{number(5)}}, 0)
	v, e = Push(l, number(5))
	wantAnswer(t, "Push", v, e, api.Value{Kind: 4, Num: 7, Text: "t", List: []api.Value{number(1), number(5)}}, 0)
	v, e = Put(m, number(1), number(5))
	wantAnswer(t, "Put", v, e, api.Value{Kind: 5, Num: -7, Text: "u", List: []api.Value{number(1), number(5)}}, 0)
	v, e = Put(m, number(0), number(5))
	wantAnswer(t, "Put", v, e, api.Value{Kind: 5, Num: -7, Text: "u", List: []api.Value{number(0), number(5), number(1), number(2)}}, 0)
	v, e = Del(m, number(1))
	wantAnswer(t, "Del", v, e, api.Value{Kind: 5, Num: -7, Text: "u"}, 0)
	v, e = Del(m, number(2))
	wantAnswer(t, "Del", v, e, m, 0)
}

// Of maps whose keys don't rise, or with a value too many, all calls end.
func TestMapsThatAreNone(t *testing.T) {
	keys := append(numbersTo(5), word("a"), list(), table(), api.Value{}, number(-1))
	for _, v := range []api.Value{
		table(number(1)), table(number(1), number(2), number(3)), table(number(2), number(0), number(1), number(0)), table(number(1), number(0), number(1), number(0)),
		table(number(3), number(0), number(1), number(0), number(2)), table(append(numbersTo(129), number(0))...), table(numbersTo(129)...), table(numbersTo(127)...), times(number(3), 64), times(number(3), 200), times(number(3), 201),
	} {
		v.Kind = 5
		for _, k := range keys {
			Len(v)
			At(v, k)
			Has(v, k)
			Put(v, k, number(1))
			Del(v, k)
			Push(v, k)
		}
	}
}

func TestExamples(t *testing.T) {
	v, e := Put(table(number(1), number(5), number(3), number(7)), Int(2), Int(6))
	wantAnswer(t, "Put", v, e, table(number(1), number(5), number(2), number(6), number(3), number(7)), 0)
	wantBytes(t, Int(-1), "int", "\x01\x00")
	wantBytes(t, Int(300), "int", "\x00\xac\x02")
	wantBytes(t, list(Text("a"), Text("")), "[text]", "\x02\x01a\x00")
}

// wantBytes asks that a value has these bytes, and they are read as it.
func wantBytes(t *testing.T, v api.Value, s, want string) {
	t.Helper()
	if b, e := Encode(v, s); string(b) != want || e != api.OK {
		t.Errorf("Encode of %s, %s: %s, %d; not %s", told(v), s, told(fmt.Sprintf("%x", b)), e, told(fmt.Sprintf("%x", want)))
	}
	back, e := Decode([]byte(want), s)
	wantAnswer(t, fmt.Sprintf("Decode of %s, %s", told(fmt.Sprintf("%x", want)), s), back, e, v, 0)
}

func TestBytes(t *testing.T) {
	cases := []struct {
		v       api.Value
		s, want string
	}{
		{number(0), "int", "\x00\x00"}, {number(1), "int", "\x00\x01"}, {number(127), "int", "\x00\x7f"}, {number(128), "int", "\x00\x80\x01"}, {number(math.MaxInt64), "int", "\x00\xff\xff\xff\xff\xff\xff\xff\xff\x7f"},
		{number(-2), "int", "\x01\x01"}, {number(-128), "int", "\x01\x7f"}, {number(-129), "int", "\x01\x80\x01"}, {number(-300), "int", "\x01\xab\x02"}, {number(math.MinInt64), "int", "\x01\xff\xff\xff\xff\xff\xff\xff\xff\x7f"}, {number(math.MinInt64 + 1), "int", "\x01\xfe\xff\xff\xff\xff\xff\xff\xff\x7f"},
		{truth(0), "bool", "\x00"}, {truth(1), "bool", "\x01"},
		{word(""), "text", "\x00"}, {word("a"), "text", "\x01a"}, {word("\x00\xff"), "text", "\x02\x00\xff"}, {word(strings.Repeat("x", 127)), "text", "\x7f" + strings.Repeat("x", 127)}, {word(strings.Repeat("x", 128)), "text", "\x80\x01" + strings.Repeat("x", 128)}, {word(allBytes), "text", "\x80\x02" + allBytes},
		{list(), "[int]", "\x00"}, {list(), "[[[text]]]", "\x00"}, {list(number(5)), "[int]", "\x01\x00\x05"}, {list(truth(1), truth(0), truth(1)), "[bool]", "\x03\x01\x00\x01"}, {list(list(number(-1)), list()), "[[int]]", "\x02\x01\x01\x00\x00"}, {times(truth(1), 64), "[bool]", "\x40" + strings.Repeat("\x01", 64)},
		{table(), "{int:int}", "\x00"}, {table(), "{text:[int]}", "\x00"}, {table(number(-1), number(2), number(0), number(3)), "{int:int}", "\x02\x01\x00\x00\x02\x00\x00\x00\x03"}, {table(word(""), truth(1), word("k"), truth(0)), "{text:bool}", "\x02\x00\x01\x01k\x00"}, {table(word("k"), list(word("v"), word("w"))), "{text:[text]}", "\x01\x01k\x02\x01v\x01w"},
		{table(number(7), table(word("a"), list(truth(1)))), "{int:{text:[bool]}}", "\x01\x00\x07\x01\x01a\x01\x01"}, {list(table(number(1), word("x")), table()), "[{int:text}]", "\x02\x01\x00\x01\x01x\x00"},
	}
	for _, c := range cases {
		wantBytes(t, c.v, c.s, c.want)
	}
	full := tableTo(64, truth(1))
	want := "\x40"
	for i := range 64 {
		want += "\x00" + string([]byte{byte(2 * i)}) + "\x01"
	}
	wantBytes(t, full, "{int:bool}", want)
}

func TestEncodeOfWrongValues(t *testing.T) {
	for _, c := range fitCases() {
		b, e := Encode(c.v, c.t)
		if c.want && (e != api.OK || len(b) == 0) || !c.want && (e != api.ErrArg || len(b) != 0) {
			t.Errorf("%s, %s: %d bytes, %d", told(c.v), c.t, len(b), e)
		}
		want, err := plainEncode(c.v, c.t)
		if string(b) != string(want) || e != err {
			t.Errorf("%s, %s: %d; not %d", told(c.v), c.t, e, err)
		}
	}
}

func TestDecodeOfWrongBytes(t *testing.T) {
	cases := []struct{ b, s string }{
		{"", "int"}, {"\x00", "int"}, {"\x01", "int"}, {"\x02\x00", "int"}, {"\x03\x05", "int"}, {"\x80\x00\x05", "int"}, {"\x81\x00\x05", "int"}, {"\x00\x80", "int"}, {"\x00\x80\x00", "int"}, {"\x00\x85\x00", "int"}, {"\x01\x80\x00", "int"}, {"\x00\xff\xff\xff\xff\xff\xff\xff\xff\xff\x01", "int"}, {"\x01\xff\xff\xff\xff\xff\xff\xff\xff\xff\x01", "int"}, {"\x00\x05\x00", "int"}, {"\xff\xff\xff\xff\xff\xff\xff\xff\x7f\x05", "int"}, {"\x80\x01\x05", "int"},
		{"", "bool"}, {"\x02", "bool"}, {"\x03", "bool"}, {"\x7f", "bool"}, {"\x80\x01", "bool"}, {"\x80\x00", "bool"}, {"\x81\x00", "bool"}, {"\x00\x00", "bool"}, {"\x01\x01", "bool"}, {"\xff\xff\xff\xff\xff\xff\xff\xff\x7f", "bool"},
		{"", "text"}, {"\x01", "text"}, {"\x02a", "text"}, {"\x00a", "text"}, {"\x01ab", "text"}, {"\x80\x00", "text"}, {"\x81\x00a", "text"}, {"\x81\x02" + strings.Repeat("x", 257), "text"}, {"\x80\x02" + strings.Repeat("x", 255), "text"}, {"\x80\x02" + strings.Repeat("x", 257), "text"}, {"\xff\xff\xff\xff\xff\xff\xff\xff\x7f", "text"}, {"\x80\x80\x01" + strings.Repeat("x", 16384), "text"},
		{"", "[int]"}, {"\x01", "[int]"}, {"\x01\x00", "[int]"}, {"\x02\x00\x05", "[int]"}, {"\x00\x00", "[int]"}, {"\x01\x00\x05\x00", "[int]"}, {"\x01\x02\x05", "[int]"}, {"\x80\x00", "[int]"}, {"\x81\x00\x00\x05", "[int]"}, {"\x41" + strings.Repeat("\x01", 65), "[bool]"}, {"\x40" + strings.Repeat("\x01", 63), "[bool]"}, {"\x40" + strings.Repeat("\x01", 65), "[bool]"}, {"\x40" + strings.Repeat("\x01", 63) + "\x02", "[bool]"}, {"\xff\xff\xff\xff\xff\xff\xff\xff\x7f\x01", "[bool]"}, {"\x01\x41" + strings.Repeat("\x01", 65), "[[bool]]"},
		{"", "{int:int}"}, {"\x01\x00\x05", "{int:int}"}, {"\x01\x00\x05\x00", "{int:int}"}, {"\x00\x00", "{int:int}"}, {"\x01\x00\x05\x00\x05\x00", "{int:int}"}, {"\x80\x00", "{int:int}"}, {"\x02\x00\x02\x00\x00\x00\x01\x00\x00", "{int:int}"}, {"\x02\x00\x01\x00\x00\x00\x01\x00\x00", "{int:int}"}, {"\x02\x00\x01\x00\x00\x00\x01\x00\x05", "{int:int}"}, {"\x02\x00\x00\x00\x00\x01\x00\x00\x00", "{int:int}"}, {"\x02\x01b\x01\x01a\x01", "{text:bool}"}, {"\x02\x01a\x01\x01a\x01", "{text:bool}"}, {"\x02\x01a\x01\x00\x01", "{text:bool}"}, {"\x03\x00\x00\x01\x01a\x01\x01a\x01", "{text:bool}"}, {"\x01\x00\x07\x02\x00\x01\x00\x00\x00", "{int:{int:bool}}"}, {"\xff\xff\xff\xff\xff\xff\xff\xff\x7f\x01", "{text:bool}"},
	}
	for _, c := range cases {
		v, e := Decode([]byte(c.b), c.s)
		wantAnswer(t, fmt.Sprintf("Decode of %s, %s", told(fmt.Sprintf("%x", c.b)), c.s), v, e, api.Value{}, api.ErrForm)
	}
	// So many pairs, all in order, but one too many.
	for n, err := range map[int]api.Errno{63: api.OK, 64: api.OK, 65: api.ErrForm, 128: api.ErrForm} {
		w := writer{long: -1}
		w.value(tableTo(n, truth(1)))
		if v, e := Decode(w.b, "{int:bool}"); e != err {
			t.Errorf("%d pairs: %s, %d", n, told(v), e)
		}
	}
	// Too heavy, in all ways right else.
	for weight, err := range map[int]api.Errno{16383: api.OK, 16384: api.OK, 16385: api.ErrForm} {
		for s, v := range map[string]api.Value{"[text]": heavy(weight), "[[text]]": list(heavy(weight - 1)), "{int:[text]}": table(number(1), heavy(weight-2)), "[[[text]]]": list(list(heavy(10)), list(heavy(weight-13)))} {
			w := writer{long: -1}
			w.value(v)
			if got, e := Decode(w.b, s); e != err || e == api.OK && !same(got, v) {
				t.Errorf("%s of weight %d: %s, %d", s, weight, told(got), e)
			}
		}
	}
	w := writer{long: -1}
	w.value(times(times(times(truth(1), 64), 64), 64))
	v, e := Decode(w.b, "[[[bool]]]")
	wantAnswer(t, "Decode of all too many", v, e, api.Value{}, api.ErrForm)
}

// All calls end, of values that are far deeper, longer and heavier than those of types.
func TestGreatValues(t *testing.T) {
	deep := nested(word("x"), 65000)
	other := nested(word("y"), 65000)
	if Weight(deep) != 65002 || Compare(deep, other) != -1 || Compare(other, deep) != 1 || Compare(deep, Copy(deep)) != 0 || Compare(deep.List[0], deep) != -1 {
		t.Error("deep")
	}
	for _, s := range allTypes {
		if Fits(deep, s) {
			t.Errorf("deep: %s", s)
		}
		if b, e := Encode(deep, s); len(b) != 0 || e != api.ErrArg {
			t.Errorf("deep: %s: %d", s, e)
		}
	}
	v, e := At(deep, number(0))
	wantAnswer(t, "At", v, e, deep.List[0], 0)
	v, e = Put(deep, number(0), number(1))
	wantAnswer(t, "Put", v, e, list(number(1)), 0)
	v, e = Put(list(number(1)), number(0), deep)
	wantAnswer(t, "Put", v, e, api.Value{}, api.ErrSize)
	v, e = Put(table(deep, number(1)), other, number(2))
	wantAnswer(t, "Put", v, e, api.Value{}, api.ErrSize)
	v, e = Push(deep, number(1))
	wantAnswer(t, "Push", v, e, api.Value{}, api.ErrSize)
	v, e = At(table(deep, number(1), other, number(2)), other)
	wantAnswer(t, "At", v, e, number(2), 0)
	v, e = Del(table(deep, number(1), other, number(2)), deep)
	wantAnswer(t, "Del", v, e, table(other, number(2)), 0)
	long := word(strings.Repeat("x", 1<<20))
	v, e = Push(times(number(1), 1<<20), long)
	wantAnswer(t, "Push", v, e, api.Value{}, api.ErrSize)
	v, e = Del(tableTo(1<<18, number(1)), number(1<<18))
	if e != api.OK || len(v.List) != 1<<19-2 {
		t.Error("Del of a long map")
	}
	for _, s := range []string{"text", "[text]", "{text:text}", "[[[bool]]]", "{int:{int:{int:int}}}"} {
		for _, b := range [][]byte{make([]byte, 1<<21), []byte(strings.Repeat("\x40", 1<<21)), []byte(strings.Repeat("\x80", 1<<21)), []byte(strings.Repeat("\x01", 1<<21))} {
			v, e := Decode(b, s)
			wantAnswer(t, "Decode of great bytes", v, e, api.Value{}, api.ErrForm)
		}
	}
}
