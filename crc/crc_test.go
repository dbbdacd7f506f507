package crc

import (
	"bytes"
	"hash/crc32"
	"math/rand/v2"
	"slices"
	"testing"
)

// goOn is the chapter's rule bit by bit: what r becomes over these bytes.
func goOn(r uint32, b []byte) uint32 {
	for _, c := range b {
		r ^= uint32(c)
		for range 8 {
			out := r & 1
			r >>= 1
			if out == 1 {
				r ^= 0xEDB88320
			}
		}
	}
	return r
}

func sumByRule(b []byte) uint32 { return ^goOn(0xffffffff, b) }

func addByRule(sum uint32, b []byte) uint32 { return ^goOn(^sum, b) }

func source(seed uint64) *rand.Rand { return rand.New(rand.NewPCG(2, seed)) }

func randomBytes(r *rand.Rand, n int) []byte {
	b := make([]byte, n)
	for i := range b {
		b[i] = byte(r.Uint32())
	}
	return b
}

// cut cuts b into the given number of parts at random places; some of them may be empty.
func cut(r *rand.Rand, b []byte, parts int) [][]byte {
	places := []int{0, len(b)}
	for range parts - 1 {
		places = append(places, r.IntN(len(b)+1))
	}
	slices.Sort(places)
	out := make([][]byte, parts)
	for i := range out {
		out[i] = b[places[i]:places[i+1]]
	}
	return out
}

func edgeSums() []uint32 {
	out := []uint32{0, 1, 0xffffffff, 0xfffffffe, 0x80000000, 0x7fffffff, 0xcbf43926, 0xd202ef8d, 0xedb88320, 0x12477cdf}
	for shift := range 32 {
		out = append(out, 1<<shift, ^uint32(1<<shift))
	}
	return out
}

// P2.1

func TestSumOfTheChaptersExamples(t *testing.T) {
	for _, c := range []struct {
		in   string
		want uint32
	}{
		{"", 0},
		{"\x00", 0xd202ef8d},
		{"\xff", 0xff000000},
		{"a", 0xe8b7be43},
		{"123456789", 0xcbf43926},
		{"\x00\x00\x00\x00", 0x2144df1c},
		{"\xff\xff\xff\xff", 0xffffffff},
		{"The quick brown fox jumps over the lazy dog", 0x414fa339},
	} {
		if got := Sum([]byte(c.in)); got != c.want {
			t.Errorf("Sum(%q): %08x, want %08x", c.in, got, c.want)
		}
	}
	if Sum(nil) != 0 || Sum([]byte{}) != 0 {
		t.Error("the sum of no bytes isn't 0")
	}
}

func TestSumOfEachByteIsThatOfTheRule(t *testing.T) {
	for c := range 256 {
		b := []byte{byte(c)}
		if got, want := Sum(b), sumByRule(b); got != want {
			t.Errorf("Sum(%x): %08x, want %08x", b, got, want)
		}
	}
}

func TestSumOfEachPairOfBytesIsThatOfTheRule(t *testing.T) {
	for x := range 1 << 16 {
		b := []byte{byte(x), byte(x >> 8)}
		if got, want := Sum(b), sumByRule(b); got != want {
			t.Fatalf("Sum(%x): %08x, want %08x", b, got, want)
		}
	}
}

func TestSumOfLongListsIsThatOfTheRule(t *testing.T) {
	r := source(1)
	for n := range 300 {
		b := randomBytes(r, n)
		if got, want := Sum(b), sumByRule(b); got != want {
			t.Fatalf("Sum(%x): %08x, want %08x", b, got, want)
		}
	}
	for _, c := range []byte{0, 0xff, 0x80, 1} {
		b := bytes.Repeat([]byte{c}, 1<<16)
		if got, want := Sum(b), crc32.ChecksumIEEE(b); got != want || got != sumByRule(b) {
			t.Errorf("Sum of 2^16 bytes %02x: %08x, want %08x", c, got, want)
		}
	}
	b := randomBytes(r, 1<<20)
	if got, want := Sum(b), crc32.ChecksumIEEE(b); got != want {
		t.Errorf("Sum of 2^20 bytes: %08x, want %08x", got, want)
	}
}

func TestAddGoesOnFromEverySum(t *testing.T) {
	r := source(2)
	sums := edgeSums()
	for range 500 {
		sums = append(sums, r.Uint32())
	}
	for _, sum := range sums {
		if got := Add(sum, nil); got != sum {
			t.Errorf("Add(%08x) of no bytes: %08x", sum, got)
		}
		for _, n := range []int{0, 1, 2, 3, 4, 5, 9, 64, 257} {
			b := randomBytes(r, n)
			if got, want := Add(sum, b), addByRule(sum, b); got != want {
				t.Fatalf("Add(%08x, %x): %08x, want %08x", sum, b, got, want)
			}
		}
	}
}

func TestAddOfEachByteFromEverySum(t *testing.T) {
	for _, sum := range edgeSums() {
		for c := range 256 {
			b := []byte{byte(c)}
			if got, want := Add(sum, b), addByRule(sum, b); got != want {
				t.Fatalf("Add(%08x, %x): %08x, want %08x", sum, b, got, want)
			}
		}
	}
}

func TestAddFromNoughtIsSum(t *testing.T) {
	r := source(3)
	for n := range 100 {
		b := randomBytes(r, n)
		if got, want := Add(0, b), Sum(b); got != want {
			t.Errorf("Add(0, %x): %08x, Sum %08x", b, got, want)
		}
	}
	if got := Add(Sum([]byte("12345")), []byte("6789")); got != 0xcbf43926 {
		t.Errorf("Add(Sum(12345), 6789): %08x", got)
	}
}

func TestPartsOfFewLists(t *testing.T) {
	for _, c := range []struct {
		name string
		list [][]byte
		want uint32
	}{
		{"no list", nil, 0},
		{"one nil list", [][]byte{nil}, 0},
		{"empty lists", [][]byte{{}, nil, {}}, 0},
		{"one byte 0", [][]byte{{0}}, 0xd202ef8d},
		{"one byte 0 among empty lists", [][]byte{nil, {0}, {}}, 0xd202ef8d},
		{"one list", [][]byte{[]byte("123456789")}, 0xcbf43926},
		{"an empty list within", [][]byte{[]byte("123"), {}, []byte("456789")}, 0xcbf43926},
		{"empty lists at both ends", [][]byte{nil, []byte("1234"), []byte("56789"), nil}, 0xcbf43926},
		{"single bytes", bytes.SplitAfter([]byte("123456789"), nil), 0xcbf43926},
	} {
		if got := Parts(c.list...); got != c.want {
			t.Errorf("%s: %08x, want %08x", c.name, got, c.want)
		}
	}
	if Parts() != 0 {
		t.Error("Parts of none isn't 0")
	}
	if Parts([]byte("12"), []byte("3")) == Parts([]byte("3"), []byte("12")) {
		t.Error("Parts takes its lists in another order than theirs")
	}
}

// P2.2

func TestTheSumIsTheSameHoweverBytesAreCut(t *testing.T) {
	r := source(4)
	for range 2000 {
		b := randomBytes(r, r.IntN(80))
		want := sumByRule(b)
		list := cut(r, b, 1+r.IntN(12))
		if got := Parts(list...); got != want {
			t.Fatalf("Parts(%x): %08x, want %08x", list, got, want)
		}
		sum := uint32(0)
		for _, part := range list {
			sum = Add(sum, part)
		}
		if sum != want {
			t.Fatalf("Add over %x: %08x, want %08x", list, sum, want)
		}
	}
}

func TestTheSumIsTheSameAtEachPlaceOfTwoCuts(t *testing.T) {
	b := []byte("\x00123456789\xff\x80\x00")
	want := sumByRule(b)
	for i := range len(b) + 1 {
		if got := Add(Sum(b[:i]), b[i:]); got != want {
			t.Errorf("cut at %d: Add %08x, want %08x", i, got, want)
		}
		for j := i; j <= len(b); j++ {
			if got := Parts(b[:i], b[i:j], b[j:]); got != want {
				t.Errorf("cut at %d and %d: Parts %08x, want %08x", i, j, got, want)
			}
		}
	}
}

// P2.3

func TestUnlikeBytesAtOneOrTwoPlacesHaveUnlikeSums(t *testing.T) {
	base := randomBytes(source(5), 9)
	for at := range len(base) - 1 {
		seen := make(map[uint32]int, 1<<16)
		for x := range 1 << 16 {
			b := bytes.Clone(base)
			b[at], b[at+1] = byte(x), byte(x>>8)
			sum := Sum(b)
			if y, there := seen[sum]; there {
				t.Fatalf("%04x and %04x at %d have the sum %08x both", x, y, at, sum)
			}
			seen[sum] = x
		}
	}
}

func TestUnlikeBytesAtFourPlacesHaveUnlikeSums(t *testing.T) {
	r := source(6)
	for range 20000 {
		one := randomBytes(r, 1+r.IntN(70))
		width := min(1+r.IntN(4), len(one))
		at := r.IntN(len(one) - width + 1)
		other := bytes.Clone(one)
		copy(other[at:at+width], randomBytes(r, width))
		if !bytes.Equal(one, other) && Sum(one) == Sum(other) {
			t.Fatalf("%x and %x have one sum", one, other)
		}
	}
}

// The sums' differences are sums of the single bits' differences (that the sum is so, P2.1's tests tell): if none of 32 neighbouring bits is made of others, no change of four neighbouring bytes is hidden.
func TestNoChangeOfFourNeighbouringBytesIsHidden(t *testing.T) {
	for _, n := range []int{4, 5, 8, 40, 300} {
		base := randomBytes(source(7), n)
		for at := range n - 3 {
			var basis [32]uint32 // by the highest bit
			for bit := range 32 {
				b := bytes.Clone(base)
				b[at+bit/8] ^= 1 << (bit % 8)
				if !addToBasis(&basis, Sum(b)^Sum(base)) {
					t.Fatalf("%d bytes, at %d: bit %d is made of others", n, at, bit)
				}
			}
		}
	}
}

// addToBasis answers whether x isn't made of what is there already.
func addToBasis(basis *[32]uint32, x uint32) bool {
	for high := 31; high >= 0; high-- {
		if x>>high&1 == 0 {
			continue
		}
		if basis[high] == 0 {
			basis[high] = x
			return true
		}
		x ^= basis[high]
	}
	return false
}

// P2.4

func TestWhatIsHandedInStaysAsItWas(t *testing.T) {
	room := []byte("..123456789..")
	was := bytes.Clone(room)
	b := room[2:11] // spare room behind it
	Sum(b)
	Add(5, b)
	list := [][]byte{b[:3], nil, b[3:3], b[3:], b}
	held := slices.Clone(list)
	Parts(list[:4]...)
	if !bytes.Equal(room, was) {
		t.Errorf("the bytes are %q now", room)
	}
	for i := range list {
		if len(list[i]) != len(held[i]) || cap(list[i]) != cap(held[i]) || (list[i] == nil) != (held[i] == nil) {
			t.Errorf("list %d is another one now", i)
		}
		if len(list[i]) > 0 && &list[i][0] != &held[i][0] {
			t.Errorf("list %d is another one now", i)
		}
	}
}

func TestWhatIsHandedInIsNotKept(t *testing.T) {
	b := []byte("123456789")
	other := []byte("987654321")
	sum, more, parts := Sum(b), Add(7, b), Parts(b[:4], b[4:])
	copy(b, other)
	if Sum(b) != sumByRule(other) || Add(7, b) != addByRule(7, other) || Parts(b[:4], b[4:]) != sumByRule(other) {
		t.Error("what was written behind the call isn't what the next call sums")
	}
	copy(b, "123456789")
	if Sum(b) != sum || Add(7, b) != more || Parts(b[:4], b[4:]) != parts {
		t.Error("the same bytes have another sum than ahead")
	}
}

func TestAnEarlierSumChangesNoLaterOne(t *testing.T) {
	r := source(8)
	for range 200 {
		Add(r.Uint32(), randomBytes(r, r.IntN(20)))
		if Sum([]byte("123456789")) != 0xcbf43926 || Sum(nil) != 0 || Parts() != 0 {
			t.Fatal("a sum hangs on what was summed ahead of it")
		}
	}
}
