package pack

import (
	"bytes"
	"math"
	"math/rand/v2"
	"slices"
	"testing"
)

// formOf is the chapter's form of a number, worked out digit by digit: base 128, the lowest digit first.
func formOf(x int) []byte {
	if x <= 0 {
		return []byte{0}
	}
	var digits []byte
	for ; x > 0; x /= 128 {
		digits = append(digits, byte(x%128))
	}
	for i := range digits[:len(digits)-1] {
		digits[i] += 128
	}
	return digits
}

// edgeNumbers: each power of two that a number can be near to, and both sides of it, by rising size.
func edgeNumbers() []int {
	out := []int{0, 1, 2, 300, math.MaxInt}
	for shift := 2; shift < 63; shift++ {
		p := 1 << shift
		out = append(out, p-1, p, p+1)
	}
	slices.Sort(out)
	return slices.Compact(out)
}

var nearNought = []int{-1, -5, -127, -128, -129, math.MinInt + 1, math.MinInt}

func nines(last byte) []byte {
	return append(bytes.Repeat([]byte{0xff}, 8), last)
}

// P1.1

func TestPutGivesEachNumberItsBytes(t *testing.T) {
	for _, c := range []struct {
		front string
		xs    []int
		want  string
	}{
		{"", []int{0, 127, 128, 300}, "\x00\x7f\x80\x01\xac\x02"},
		{"", []int{-5}, "\x00"},
		{"", nil, ""},
		{"\x80\xff", nil, "\x80\xff"},
		{"ab", []int{1}, "ab\x01"},
		{"\x80", []int{300, 1, 300}, "\x80\xac\x02\x01\xac\x02"},
		{"", []int{128*128 - 1, 128 * 128}, "\xff\x7f\x80\x80\x01"},
		{"", []int{math.MaxInt}, "\xff\xff\xff\xff\xff\xff\xff\xff\x7f"},
		{"", []int{math.MinInt, 5, -1}, "\x00\x05\x00"},
	} {
		if got := Put([]byte(c.front), c.xs...); string(got) != c.want {
			t.Errorf("Put(% x, %v) = % x, want % x", c.front, c.xs, got, c.want)
		}
	}
	if got := Put(nil); len(got) != 0 {
		t.Errorf("Put(nil) = % x, want nothing", got)
	}
}

func TestPutAndSizeAtAllEdges(t *testing.T) {
	for _, x := range append(edgeNumbers(), nearNought...) {
		want := formOf(x)
		if got := Put(nil, x); !bytes.Equal(got, want) {
			t.Errorf("Put(nil, %d) = % x, want % x", x, got, want)
		}
		if got := Size(x); got != len(want) {
			t.Errorf("Size(%d) = %d, want %d", x, got, len(want))
		}
	}
}

func TestSizeGrowsByOneEverySevenBits(t *testing.T) {
	for n := 1; n <= 8; n++ {
		if low, high := Size(1<<(7*n)-1), Size(1<<(7*n)); low != n || high != n+1 {
			t.Errorf("Size on both sides of 2^%d: %d and %d", 7*n, low, high)
		}
	}
	if got := Size(math.MaxInt); got != 9 {
		t.Errorf("Size of the greatest number: %d", got)
	}
}

func TestTakeOfNumbersAndOfNone(t *testing.T) {
	for _, c := range []struct {
		in   string
		x, n int
	}{
		{"\xac\x02\x07", 300, 2},
		{"\x00", 0, 1},
		{"\x00\x00", 0, 1},
		{"\x7f\x80", 127, 1},
		{"\x80\x01", 128, 2},
		{"\xff\x01", 255, 2},
		{"\x80\x80\x01", 128 * 128, 3},
		{"\xff\xff\xff\xff\xff\xff\xff\xff\x7f", math.MaxInt, 9},
		{"\xff\xff\xff\xff\xff\xff\xff\xff\x7f\x80", math.MaxInt, 9},
		{"\x80\x80\x80\x80\x80\x80\x80\x80\x01", 1 << 56, 9},
		{"\x80\x80\x80\x80\x80\x80\x80\x80\x40", 1 << 62, 9},
		// It ends within the number.
		{"", 0, 0},
		{"\x80", 0, 0},
		{"\xff\xff", 0, 0},
		{"\xff\xff\xff\xff\xff\xff\xff\xff", 0, 0},
		// Its last byte is a needless 0.
		{"\x80\x00", 0, 0},
		{"\xff\x00\x05", 0, 0},
		{"\xff\xff\xff\xff\xff\xff\xff\xff\x00", 0, 0},
		// The ninth byte is above 127.
		{"\xff\xff\xff\xff\xff\xff\xff\xff\x80", 0, 0},
		{"\xff\xff\xff\xff\xff\xff\xff\xff\xff\x01", 0, 0},
		{"\x80\x80\x80\x80\x80\x80\x80\x80\x80\x01", 0, 0},
		{"\x80\x80\x80\x80\x80\x80\x80\x80\x81\x00", 0, 0},
	} {
		if x, n := Take([]byte(c.in)); x != c.x || n != c.n {
			t.Errorf("Take(% x) = %d, %d, want %d, %d", c.in, x, n, c.x, c.n)
		}
	}
	if x, n := Take(nil); x != 0 || n != 0 {
		t.Errorf("Take(nil) = %d, %d", x, n)
	}
}

// P1.2

func TestThereAndBack(t *testing.T) {
	behind := [][]byte{nil, {0}, {1}, {0x7f}, {0x80}, {0xff, 0xff}, {0x80, 0}, nines(0xff)}
	check := func(x int) {
		for _, tail := range behind {
			if got, n := Take(append(Put(nil, x), tail...)); got != x || n != Size(x) {
				t.Fatalf("Take of Put(nil, %d) and % x: %d, %d", x, tail, got, n)
			}
		}
	}
	for _, x := range edgeNumbers() {
		check(x)
	}
	for x := range 1 << 15 {
		check(x)
	}
	chance := rand.New(rand.NewPCG(1, 2))
	for range 20000 {
		check(int(chance.Uint64()>>1) >> chance.IntN(63))
	}
}

func TestBackAndThere(t *testing.T) {
	check := func(b []byte) {
		x, n := Take(b)
		if n == 0 {
			if x != 0 {
				t.Fatalf("Take(% x): none, but the number %d", b, x)
			}
			return
		}
		if n > len(b) || x < 0 || !bytes.Equal(Put(nil, x), b[:n]) {
			t.Fatalf("Take(% x) = %d, %d, whose bytes are % x", b, x, n, Put(nil, x))
		}
	}
	for v := range 1 << 17 { // all of one and two bytes, and those with a third
		check([]byte{byte(v)})
		check([]byte{byte(v), byte(v >> 8)})
		check([]byte{byte(v), byte(v >> 8), byte(v >> 16)})
	}
	chance := rand.New(rand.NewPCG(3, 4))
	for range 50000 {
		check(roughBytes(chance, chance.IntN(13)))
	}
}

// roughBytes leans to the bytes that make a difference: 0, 127, 128, 255, and long rows of bytes above 127.
func roughBytes(chance *rand.Rand, n int) []byte {
	out := make([]byte, n)
	for i := range out {
		switch chance.IntN(5) {
		case 0:
			out[i] = []byte{0, 1, 127, 128, 255}[chance.IntN(5)]
		case 1:
			out[i] = byte(chance.IntN(256))
		default:
			out[i] = byte(128 + chance.IntN(128))
		}
	}
	return out
}

// P1.3

type placed struct{ at, x int }

func all(seq func(func(int, int) bool)) []placed {
	var out []placed
	for at, x := range seq {
		out = append(out, placed{at, x})
	}
	return out
}

func TestNumbersEndsWhereNoneBegins(t *testing.T) {
	for _, c := range []struct {
		in   []byte
		want []placed
	}{
		{nil, nil},
		{[]byte{}, nil},
		{[]byte{0x80}, nil},
		{[]byte{0x80, 0, 1}, nil},
		{nines(0x80), nil},
		{[]byte{0}, []placed{{0, 0}}},
		{[]byte{0, 0x7f, 0x80, 1, 0x80}, []placed{{0, 0}, {1, 127}, {2, 128}}},
		{[]byte{0, 0, 0}, []placed{{0, 0}, {1, 0}, {2, 0}}},
		{[]byte{1, 0x80, 0, 2}, []placed{{0, 1}}},
		{append([]byte{5}, nines(0x80)...), []placed{{0, 5}}},
		{append(nines(0x7f), 3), []placed{{0, math.MaxInt}, {9, 3}}},
	} {
		if got := all(Numbers(c.in)); !slices.Equal(got, c.want) {
			t.Errorf("Numbers(% x): %v, want %v", c.in, got, c.want)
		}
	}
}

func TestNumbersGoesOverWhatWasPut(t *testing.T) {
	xs := edgeNumbers()
	var want []placed
	at := 0
	for _, x := range xs {
		want = append(want, placed{at, x})
		at += Size(x)
	}
	if got := all(Numbers(Put(nil, xs...))); !slices.Equal(got, want) {
		t.Errorf("%v, want %v", got, want)
	}
}

func TestNumbersAnewEachTime(t *testing.T) {
	seq := Numbers([]byte{0, 0x7f, 0x80, 1, 9, 0x80})
	want := []placed{{0, 0}, {1, 127}, {2, 128}, {4, 9}}
	for range 3 {
		if got := all(seq); !slices.Equal(got, want) {
			t.Fatalf("%v, want %v", got, want)
		}
	}
	for stop := 1; stop <= len(want); stop++ {
		var got []placed
		for at, x := range seq {
			if got = append(got, placed{at, x}); len(got) == stop {
				break
			}
		}
		if !slices.Equal(got, want[:stop]) {
			t.Fatalf("stopped at %d: %v", stop, got)
		}
		if again := all(seq); !slices.Equal(again, want) {
			t.Fatalf("behind a stop at %d: %v", stop, again)
		}
	}
}

func TestNumbersAsksNoMoreBehindAStop(t *testing.T) {
	calls := 0
	Numbers([]byte{1, 2, 3})(func(int, int) bool {
		calls++
		return false
	})
	if calls != 1 {
		t.Errorf("asked %d times, want 1", calls)
	}
}

func TestNumbersWithinItself(t *testing.T) {
	seq := Numbers([]byte{4, 5, 6})
	var got []placed
	for at, x := range seq {
		for _, y := range seq {
			got = append(got, placed{at, x * y})
		}
	}
	want := []placed{{0, 16}, {0, 20}, {0, 24}, {1, 20}, {1, 25}, {1, 30}, {2, 24}, {2, 30}, {2, 36}}
	if !slices.Equal(got, want) {
		t.Errorf("%v, want %v", got, want)
	}
}

// P1.4

func TestReaderReadsFromTheFront(t *testing.T) {
	r := New([]byte{5, 1, 2})
	if x := r.Number(); x != 5 {
		t.Errorf("Number: %d", x)
	}
	if b := r.Bytes(1); !bytes.Equal(b, []byte{1}) {
		t.Errorf("Bytes: % x", b)
	}
	if r.Left() != 1 || r.Bad() || r.End() {
		t.Errorf("one is left: %d, %v, %v", r.Left(), r.Bad(), r.End())
	}
	if x := r.Byte(); x != 2 {
		t.Errorf("Byte: %d", x)
	}
	if r.Left() != 0 || r.Bad() || !r.End() {
		t.Errorf("none is left: %d, %v, %v", r.Left(), r.Bad(), r.End())
	}
	if b := r.Bytes(0); len(b) != 0 || r.Bad() || !r.End() {
		t.Errorf("no byte of none is no fault: % x, %v, %v", b, r.Bad(), r.End())
	}
	if x := r.Byte(); x != 0 || !r.Bad() || r.End() || r.Left() != 0 {
		t.Errorf("a byte of none: %d, %v, %v, %d", x, r.Bad(), r.End(), r.Left())
	}
}

func TestReaderOfNothing(t *testing.T) {
	for _, in := range [][]byte{nil, {}} {
		if r := New(in); r == nil || r.Left() != 0 || r.Bad() || !r.End() {
			t.Errorf("a reader of nothing: %v", r)
		}
	}
}

func TestReaderTakesNumbersAsTakeDoes(t *testing.T) {
	b := Put(nil, edgeNumbers()...)
	r := New(b)
	left := len(b)
	for _, x := range edgeNumbers() {
		left -= Size(x)
		if got := r.Number(); got != x || r.Left() != left || r.Bad() {
			t.Fatalf("Number: %d, want %d; left %d, want %d", got, x, r.Left(), left)
		}
	}
	if !r.End() {
		t.Error("not at the end")
	}
}

// faults: bytes, and a call that meets a fault there, though bytes may be left.
var faults = []struct {
	name string
	in   []byte
	call func(*Reader) bool // whether it answered 0 or none
}{
	{"a number of no bytes", nil, func(r *Reader) bool { return r.Number() == 0 }},
	{"a number that isn't ended", []byte{0x81}, func(r *Reader) bool { return r.Number() == 0 }},
	{"a number with a needless 0", []byte{0x81, 0, 1, 2}, func(r *Reader) bool { return r.Number() == 0 }},
	{"a number with a tenth byte", append(nines(0xff), 1, 2), func(r *Reader) bool { return r.Number() == 0 }},
	{"a byte of none", nil, func(r *Reader) bool { return r.Byte() == 0 }},
	{"bytes of none", nil, func(r *Reader) bool { return len(r.Bytes(1)) == 0 }},
	{"one byte too many", []byte{1, 2, 3}, func(r *Reader) bool { return len(r.Bytes(4)) == 0 }},
	{"far too many bytes", []byte{1, 2, 3}, func(r *Reader) bool { return len(r.Bytes(math.MaxInt)) == 0 }},
	{"bytes below 0", []byte{1, 2, 3}, func(r *Reader) bool { return len(r.Bytes(-1)) == 0 }},
	{"bytes far below 0", []byte{1, 2, 3}, func(r *Reader) bool { return len(r.Bytes(math.MinInt)) == 0 }},
}

func isFaulty(r *Reader) bool { return r.Left() == 0 && r.Bad() && !r.End() }

func TestReaderTakesNothingBehindAFault(t *testing.T) {
	later := []func(*Reader) bool{
		func(r *Reader) bool { return r.Number() == 0 },
		func(r *Reader) bool { return r.Byte() == 0 },
		func(r *Reader) bool { return len(r.Bytes(0)) == 0 },
		func(r *Reader) bool { return len(r.Bytes(1)) == 0 },
		func(r *Reader) bool { return len(r.Bytes(-1)) == 0 },
	}
	for _, c := range faults {
		for i, first := range later {
			r := New(c.in)
			if !c.call(r) || !isFaulty(r) {
				t.Errorf("%s: no fault: %v", c.name, r)
			}
			if !first(r) || !isFaulty(r) {
				t.Errorf("%s: call %d behind it: %v", c.name, i, r)
			}
			for j, next := range later {
				if !next(r) || !isFaulty(r) {
					t.Errorf("%s: call %d behind calls behind it: %v", c.name, j, r)
				}
			}
		}
	}
}

func TestReaderAskedTakesNothing(t *testing.T) {
	r := New([]byte{7, 8})
	for range 3 {
		if r.Left() != 2 || r.Bad() || r.End() {
			t.Fatalf("asked: %d, %v, %v", r.Left(), r.Bad(), r.End())
		}
	}
	if r.Byte() != 7 || r.Byte() != 8 {
		t.Error("asking took something")
	}
}

func TestReaderThatIsNil(t *testing.T) {
	var r *Reader
	for range 2 {
		if r.Number() != 0 || r.Byte() != 0 || len(r.Bytes(0)) != 0 || len(r.Bytes(1)) != 0 || len(r.Bytes(-1)) != 0 {
			t.Error("a nil reader took something")
		}
		if r.Left() != 0 || r.Bad() || r.End() {
			t.Errorf("a nil reader: %d, %v, %v", r.Left(), r.Bad(), r.End())
		}
	}
}

// plain is the chapter's reader in other words: all bytes, a place, and whether there was a fault.
type plain struct {
	b   []byte
	at  int
	bad bool
}

func (p *plain) bytes(n int) []byte {
	if p.bad || n < 0 || n > len(p.b)-p.at {
		p.bad = true
		return nil
	}
	p.at += n
	return p.b[p.at-n : p.at]
}

func (p *plain) number() int {
	x, n := Take(p.b[p.at:])
	if p.bad || n == 0 {
		p.bad = true
		return 0
	}
	p.at += n
	return x
}

func (p *plain) left() int {
	if p.bad {
		return 0
	}
	return len(p.b) - p.at
}

func TestReaderInEveryOrderOfCalls(t *testing.T) {
	chance := rand.New(rand.NewPCG(5, 6))
	for range 20000 {
		b := roughBytes(chance, chance.IntN(24))
		for i := range b { // shorter numbers, so that a run gets on
			if chance.IntN(2) == 0 {
				b[i] %= 128
			}
		}
		r, p := New(b), &plain{b: b}
		for range 12 {
			same := true
			switch chance.IntN(3) {
			case 0:
				same = r.Number() == p.number()
			case 1:
				want := append(slices.Clone(p.bytes(1)), 0)[0]
				same = r.Byte() == want
			case 2:
				n := chance.IntN(6) - chance.IntN(2)
				same = bytes.Equal(r.Bytes(n), p.bytes(n))
			}
			if !same || r.Left() != p.left() || r.Bad() != p.bad || r.End() != (!p.bad && p.left() == 0) {
				t.Fatalf("of % x: %v, want %v", b, r, p)
			}
		}
	}
}

// P1.5

// roomy answers the bytes with spare room of a known content behind them, and the whole of it.
func roomy(b []byte) ([]byte, []byte) {
	whole := append(slices.Clone(b), bytes.Repeat([]byte{0xee}, 32)...)
	return whole[:len(b)], whole
}

func TestPutLeavesWhatItIsGiven(t *testing.T) {
	b, whole := roomy([]byte{1, 2, 3})
	before := slices.Clone(whole)
	xs := []int{-7, 300, 0}
	one := Put(b, xs...)
	two := Put(b, 5)
	none := Put(b)
	if !bytes.Equal(whole, before) || !slices.Equal(xs, []int{-7, 300, 0}) {
		t.Errorf("changed: % x, %v", whole, xs)
	}
	for _, out := range [][]byte{one, two, none} {
		clear(out[:cap(out)])
	}
	if !bytes.Equal(whole, before) {
		t.Errorf("shared: % x", whole)
	}
	again := Put(b)
	clear(b)
	if !bytes.Equal(again, []byte{1, 2, 3}) {
		t.Errorf("kept: % x", again)
	}
}

func TestTakeLeavesWhatItIsGiven(t *testing.T) {
	for _, in := range [][]byte{{0xac, 2, 7}, {0x80, 0}, {0x80}} {
		b, whole := roomy(in)
		before := slices.Clone(whole)
		Take(b)
		if !bytes.Equal(whole, before) {
			t.Errorf("Take of % x changed it", in)
		}
	}
	if x, n := Take([]byte{0x80, 1, 2}[:1]); x != 0 || n != 0 {
		t.Errorf("Take looked into the spare room: %d, %d", x, n)
	}
}

func TestNumbersKeepsACopy(t *testing.T) {
	b, whole := roomy([]byte{1, 2, 3})
	before := slices.Clone(whole)
	seq := Numbers(b)
	all(seq)
	if !bytes.Equal(whole, before) {
		t.Errorf("changed: % x", whole)
	}
	want := []placed{{0, 1}, {1, 2}, {2, 3}}
	b[0] = 9
	if got := all(seq); !slices.Equal(got, want) {
		t.Errorf("a write ahead of it is seen: %v", got)
	}
	var got []placed
	for at, x := range seq {
		clear(whole)
		got = append(got, placed{at, x})
	}
	if !slices.Equal(got, want) {
		t.Errorf("a write meanwhile is seen: %v", got)
	}
	if got := all(Numbers([]byte{1, 0x80, 1}[:2])); !slices.Equal(got, []placed{{0, 1}}) {
		t.Errorf("Numbers looked into the spare room: %v", got)
	}
}

func TestReaderKeepsACopy(t *testing.T) {
	b, whole := roomy([]byte{0xac, 2, 7, 8, 9})
	before := slices.Clone(whole)
	r := New(b)
	first := r.Number()
	if !bytes.Equal(whole, before) {
		t.Errorf("changed: % x", whole)
	}
	clear(whole)
	if first != 300 || r.Byte() != 7 || !bytes.Equal(r.Bytes(2), []byte{8, 9}) || !r.End() {
		t.Error("a write behind New is seen")
	}
}

func TestReaderBytesAreNewMemory(t *testing.T) {
	b := []byte{1, 2, 3, 4, 5, 6}
	r := New(b)
	one := r.Bytes(2)
	two := r.Bytes(2)
	clear(one[:cap(one)])
	if !bytes.Equal(two, []byte{3, 4}) {
		t.Errorf("two answers share memory: % x", two)
	}
	clear(two[:cap(two)])
	if three := r.Bytes(2); !bytes.Equal(three, []byte{5, 6}) {
		t.Errorf("an answer shares memory with the reader: % x", three)
	}
	if !bytes.Equal(b, []byte{1, 2, 3, 4, 5, 6}) {
		t.Errorf("an answer shares memory with the argument: % x", b)
	}
	empty := New([]byte{1, 2})
	none := empty.Bytes(0)
	clear(none[:cap(none)])
	if empty.Byte() != 1 || empty.Byte() != 2 {
		t.Error("an empty answer shares memory with the reader")
	}
}

func TestTwoReadersHaveNothingInCommon(t *testing.T) {
	b := []byte{1, 2, 3}
	one, two := New(b), New(b)
	out := one.Bytes(3)
	clear(out[:cap(out)])
	one.Byte()
	if !one.Bad() || two.Bad() || two.Left() != 3 {
		t.Errorf("a fault of one: %v, %v", one, two)
	}
	if x := two.Number(); x != 1 || !bytes.Equal(two.Bytes(2), []byte{2, 3}) || !two.End() {
		t.Error("the other one has lost its bytes")
	}
}
