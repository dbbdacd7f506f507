package snap

import (
	"bytes"
	"encoding/binary"
	"hash/crc32"
	"math"
	"math/rand/v2"
	"slices"
	"strconv"
	"strings"
	"testing"

	"quern/api"
	"quern/disk"
)

// A plain snapshot is the chapter word by word, in another shape: with the library's sum and number bytes, and every raw write by its own call.

func plainBytes(n int, body string) string {
	b := binary.LittleEndian.AppendUint32(nil, uint32(n))
	b = binary.LittleEndian.AppendUint32(b, uint32(len(body)))
	sum := crc32.ChecksumIEEE([]byte(string(b) + body))
	return string(binary.LittleEndian.AppendUint32(b, sum)) + body
}

// plainBody answers a snapshot's own bytes, by writing anew what its bytes would have to be.
func plainBody(n int, b string) (string, api.Errno) {
	if len(b) < 12 {
		return "", api.ErrShort
	}
	size := 12 + int(binary.LittleEndian.Uint32([]byte(b[4:8])))
	if len(b) < size {
		return "", api.ErrShort
	}
	number := int(binary.LittleEndian.Uint32([]byte(b[:4])))
	if len(b) > size || n < 0 || n > 999999999 || number != n {
		return "", api.ErrForm
	}
	if plainBytes(n, b[12:]) != b {
		return "", api.ErrSum
	}
	return b[12:], api.OK
}

func plainName(n int) string {
	s := strconv.Itoa(n)
	return "s" + "000000000"[len(s):] + s
}

// plainNumber answers the number that a snapshot's name tells, -1 of another name.
func plainNumber(name string) int {
	if len(name) != 10 || name[0] != 's' {
		return -1
	}
	n := 0
	for _, c := range []byte(name[1:]) {
		if c < '0' || c > '9' {
			return -1
		}
		n = 10*n + int(c-'0')
	}
	return n
}

// plainWrites answers the raw writes that a Save is to make, in their order.
func plainWrites(d *disk.Disk, n int, body string) []func() api.Errno {
	var list []func() api.Errno
	if _, e := d.Read("draft"); e == api.OK {
		list = append(list, func() api.Errno { return d.Remove("draft") })
	}
	list = append(list,
		func() api.Errno { return d.Append("draft", []byte(plainBytes(n, body))) },
		func() api.Errno { return d.Sync("draft") },
		func() api.Errno { return d.Rename("draft", plainName(n)) })
	for _, name := range d.Names() {
		if k := plainNumber(name); k >= 0 && k != n {
			list = append(list, func() api.Errno { return d.Remove(name) })
		}
	}
	return list
}

func plainSave(d *disk.Disk, n int, body string) api.Errno {
	if d == nil {
		return api.ErrNil
	}
	if n < 0 || n > 999999999 {
		return api.ErrArg
	}
	if 12+len(body) > 1<<20 {
		return api.ErrLong
	}
	if d.Down() {
		return api.ErrDown
	}
	for _, write := range plainWrites(d, n, body) {
		if e := write(); e != api.OK {
			return e
		}
	}
	return api.OK
}

func plainLoad(d *disk.Disk) (int, string, api.Errno) {
	if d == nil {
		return 0, "", api.ErrNil
	}
	if d.Down() {
		return 0, "", api.ErrDown
	}
	number, body := -1, ""
	for _, name := range d.Names() {
		b, _ := d.Read(name)
		n := plainNumber(name)
		if s, e := plainBody(n, string(b)); e == api.OK && n > number {
			number, body = n, s
		}
	}
	return number, body, api.OK
}

// Helpers of the tests.

const room = 1 << 24

func source(seed uint64) *rand.Rand { return rand.New(rand.NewPCG(5, seed)) }

// with answers a disk with these files, name and bytes in turn, all of them safe.
func with(t *testing.T, files ...string) *disk.Disk {
	t.Helper()
	d := disk.New(room)
	for i := 0; i < len(files); i += 2 {
		if d.Append(files[i], []byte(files[i+1])) != api.OK || d.Sync(files[i]) != api.OK {
			t.Fatalf("file %q can't be laid", files[i])
		}
	}
	return d
}

// look tells a disk's files, as name and bytes in turn; its power is on.
func look(d *disk.Disk) []string {
	var files []string
	for _, name := range d.Names() {
		b, _ := d.Read(name)
		files = append(files, name, string(b))
	}
	return files
}

// lookSafe tells what is left of a disk when its power goes now.
func lookSafe(d *disk.Disk) []string {
	d.Off(0)
	d.On()
	return look(d)
}

func wantFiles(t *testing.T, d *disk.Disk, files ...string) {
	t.Helper()
	if got := look(d); !slices.Equal(got, files) {
		t.Errorf("files: %q, want %q", got, files)
	}
}

func wantSave(t *testing.T, d *disk.Disk, n int, body string, want api.Errno) {
	t.Helper()
	if e := Save(d, n, []byte(body)); e != want {
		t.Errorf("Save of %d with %d bytes: %d, want %d", n, len(body), e, want)
	}
}

func wantLoad(t *testing.T, d *disk.Disk, n int, body string) {
	t.Helper()
	if k, b, e := Load(d); k != n || string(b) != body || e != api.OK {
		t.Errorf("Load: %d, %q, %d, want %d, %q", k, b, e, n, body)
	}
}

func wantNoLoad(t *testing.T, d *disk.Disk, want api.Errno) {
	t.Helper()
	if n, b, e := Load(d); n != 0 || len(b) != 0 || e != want {
		t.Errorf("Load: %d, %q, %d, want the error %d alone", n, b, e, want)
	}
}

func wantDecode(t *testing.T, n int, b string, body string, want api.Errno) {
	t.Helper()
	if got, e := Decode(n, []byte(b)); string(got) != body || e != want {
		t.Errorf("Decode of %d, %d bytes: %q, %d, want %q, %d", n, len(b), got, e, body, want)
	}
}

// wantWrites holds how many raw writes do makes against n.
func wantWrites(t *testing.T, d *disk.Disk, n int, do func()) {
	t.Helper()
	before := d.Writes()
	do()
	if got := d.Writes() - before; got != n {
		t.Errorf("%d raw writes, want %d", got, n)
	}
}

// P5.1: all calls answer what is said, over every disk, and make just the raw writes that are told, in their order.

func TestTheChaptersExamples(t *testing.T) {
	d := disk.New(1000)
	wantSave(t, d, 7, "ab", api.OK)
	wantFiles(t, d, "s000000007", "\x07\x00\x00\x00\x02\x00\x00\x00\x96\x88\xc4\x93ab")
	wantSave(t, d, 9, "c", api.OK)
	wantFiles(t, d, "s000000009", plainBytes(9, "c"))
	d.Arm(3, 0)
	wantSave(t, d, 11, "d", api.ErrDown)
	d.On()
	wantLoad(t, d, 9, "c")
	wantFiles(t, d, "draft", plainBytes(11, "d"), "s000000009", plainBytes(9, "c"))
	wantSave(t, d, 12, "e", api.OK)
	wantFiles(t, d, "s000000012", plainBytes(12, "e"))
}

func TestName(t *testing.T) {
	for _, c := range []struct {
		n    int
		name string
	}{
		{math.MinInt, ""}, {-1 << 32, ""}, {-2, ""}, {-1, ""},
		{0, "s000000000"}, {1, "s000000001"}, {9, "s000000009"}, {10, "s000000010"}, {12345678, "s012345678"},
		{123456789, "s123456789"}, {999999998, "s999999998"}, {999999999, "s999999999"},
		{1000000000, ""}, {1000000001, ""}, {1 << 32, ""}, {math.MaxInt, ""},
	} {
		if s := Name(c.n); s != c.name {
			t.Errorf("Name(%d): %q, want %q", c.n, s, c.name)
		}
	}
	for n := 1; n < 1000000000; n = n*3 + 1 {
		if Name(n) != plainName(n) || plainNumber(Name(n)) != n {
			t.Errorf("Name(%d): %q", n, Name(n))
		}
	}
}

func TestEncode(t *testing.T) {
	for _, c := range []struct {
		n          int
		body, want string
	}{
		{0, "", "\x00\x00\x00\x00\x00\x00\x00\x00\x69\xdf\x22\x65"},
		{7, "ab", "\x07\x00\x00\x00\x02\x00\x00\x00\x96\x88\xc4\x93ab"},
		{0x01020304, "x", "\x04\x03\x02\x01\x01\x00\x00\x00" + plainBytes(0x01020304, "x")[8:12] + "x"},
		{999999999, "", "\xff\xc9\x9a\x3b\x00\x00\x00\x00" + plainBytes(999999999, "")[8:12]},
	} {
		if b := Encode(c.n, []byte(c.body)); string(b) != c.want || string(b) != plainBytes(c.n, c.body) {
			t.Errorf("Encode of %d, %q: %x, want %x", c.n, c.body, b, c.want)
		}
	}
	if b := Encode(5, nil); string(b) != plainBytes(5, "") {
		t.Errorf("Encode of nil: %x", b)
	}
}

func TestEncodeOfNumbersThatCantBe(t *testing.T) {
	for _, c := range []struct{ n, same int }{
		{-1, math.MaxUint32}, {-2, math.MaxUint32 - 1}, {math.MinInt, 0}, {math.MinInt + 3, 3}, {math.MaxInt, math.MaxUint32},
		{1 << 32, 0}, {1<<32 + 7, 7}, {-1<<32 + 7, 7}, {1000000000, 1000000000}, {-1 << 31, 1 << 31},
	} {
		b, want := Encode(c.n, []byte("abc")), plainBytes(c.same, "abc")
		if string(b) != want || int(binary.LittleEndian.Uint32(b)) != c.same {
			t.Errorf("Encode of %d: %x, want %x", c.n, b, want)
		}
	}
}

func TestEncodeOfManyLengths(t *testing.T) {
	r := source(1)
	for _, size := range []int{1, 2, 3, 255, 256, 257, 65535, 65536, 65537, 1 << 20, 1<<24 + 5} {
		body := make([]byte, size)
		for i := range body {
			body[i] = byte(r.Uint32())
		}
		n := r.IntN(1000000000)
		b := Encode(n, body)
		if string(b) != plainBytes(n, string(body)) {
			t.Errorf("Encode of %d bytes: %d bytes", size, len(b))
		}
		if got, e := Decode(n, b); !bytes.Equal(got, body) || e != api.OK {
			t.Errorf("Decode of %d bytes: %d, %d", size, len(got), e)
		}
	}
}

func TestDecodeOfTooFewBytes(t *testing.T) {
	whole := plainBytes(3, "x")
	for n := range 12 {
		wantDecode(t, 3, whole[:n], "", api.ErrShort)
		wantDecode(t, 3, strings.Repeat("\xff", n), "", api.ErrShort)
		wantDecode(t, -1, strings.Repeat("\x00", n), "", api.ErrShort)
	}
	if b, e := Decode(3, nil); len(b) != 0 || e != api.ErrShort {
		t.Errorf("Decode of nil: %q, %d", b, e)
	}
	wantDecode(t, 3, whole[:12], "", api.ErrShort)
	wantDecode(t, 3, whole[:4]+"\xff\xff\xff\xff"+whole[8:], "", api.ErrShort)
	wantDecode(t, 3, whole[:4]+"\x00\x00\x00\x80"+whole[8:], "", api.ErrShort)
	wantDecode(t, 3, whole[:4]+"\x02\x00\x00\x00"+whole[8:], "", api.ErrShort)
}

func TestDecodeOfWhatIsNoneOfThatNumber(t *testing.T) {
	whole := plainBytes(3, "x")
	wantDecode(t, 3, whole, "x", api.OK)
	wantDecode(t, 3, whole+"y", "", api.ErrForm)
	wantDecode(t, 3, plainBytes(3, "")+"y", "", api.ErrForm)
	for _, n := range []int{2, 4, 3 + 1<<8, 3 + 1<<16, 3 + 1<<24, 0, 999999999} {
		wantDecode(t, n, whole, "", api.ErrForm)
		wantDecode(t, 3, plainBytes(n, "x"), "", api.ErrForm)
	}
	// Numbers of which there is no snapshot, with bytes that have just that number.
	for _, n := range []int{-1, 1000000000, 1<<32 - 1, 1 << 32, 3 + 1<<32, 3 - 1<<32, math.MinInt, math.MinInt + 3, math.MaxInt} {
		wantDecode(t, n, string(Encode(n, []byte("x"))), "", api.ErrForm)
	}
	for _, n := range []int{0, 1, 999999998, 999999999} {
		wantDecode(t, n, plainBytes(n, "x"), "x", api.OK)
		wantDecode(t, n, plainBytes(n, ""), "", api.OK)
	}
}

func TestDecodeOfDamagedBytes(t *testing.T) {
	whole := plainBytes(0x01020304, "0123456789")
	for i := range len(whole) {
		for bit := range 8 {
			b := []byte(whole)
			b[i] ^= 1 << bit
			_, want := plainBody(0x01020304, string(b))
			if i >= 8 && want != api.ErrSum || i < 4 && want != api.ErrForm || want == api.OK {
				t.Fatalf("byte %d, bit %d: the plain one answers %d", i, bit, want)
			}
			wantDecode(t, 0x01020304, string(b), "", want)
		}
	}
	// A sum over the own bytes alone, or over the eight alone, isn't it.
	for _, summed := range []string{"0123456789", whole[:8], whole[:8] + "\x00\x00\x00\x00" + "0123456789"} {
		sum := binary.LittleEndian.AppendUint32(nil, crc32.ChecksumIEEE([]byte(summed)))
		wantDecode(t, 0x01020304, whole[:8]+string(sum)+"0123456789", "", api.ErrSum)
	}
}

func TestDecodesErrorsInTheirOrder(t *testing.T) {
	torn := []byte(plainBytes(3, "xy"))
	torn[8] ^= 1
	short, long := string(torn[:13]), string(torn)+"z"
	for _, c := range []struct {
		n    int
		b    string
		want api.Errno
	}{
		{-1, short[:11], api.ErrShort}, {-1, short, api.ErrShort}, {4, short, api.ErrShort}, {3, short, api.ErrShort},
		{-1, long, api.ErrForm}, {4, long, api.ErrForm}, {3, long, api.ErrForm},
		{-1, string(torn), api.ErrForm}, {4, string(torn), api.ErrForm}, {3 + 1<<32, string(torn), api.ErrForm},
		{3, string(torn), api.ErrSum},
	} {
		wantDecode(t, c.n, c.b, "", c.want)
	}
}

func TestDecodeOfRandomBytes(t *testing.T) {
	r := source(2)
	counts := map[api.Errno]int{}
	for range 20000 {
		n := r.IntN(4) - 1
		b := []byte(plainBytes(r.IntN(3), strings.Repeat("z", r.IntN(4))))
		switch r.IntN(4) {
		case 0:
			b = b[:r.IntN(len(b)+1)]
		case 1:
			b = append(b, byte(r.Uint32()))
		case 2:
			b[r.IntN(len(b))] = byte(r.IntN(3))
		}
		body, want := plainBody(n, string(b))
		counts[want]++
		wantDecode(t, n, string(b), body, want)
	}
	for _, e := range []api.Errno{api.OK, api.ErrShort, api.ErrForm, api.ErrSum} {
		if counts[e] < 100 {
			t.Errorf("the error %d came %d times", e, counts[e])
		}
	}
}

func TestSaveRefuses(t *testing.T) {
	long := strings.Repeat("x", api.MaxFile-12+1)
	on := with(t, "draft", "d", "s000000001", plainBytes(1, "a"))
	off := with(t, "draft", "d", "s000000001", plainBytes(1, "a"))
	off.Off(0)
	// Where several errors hold, it is the one that the chapter names first.
	for _, c := range []struct {
		d    *disk.Disk
		n    int
		body string
		want api.Errno
	}{
		{nil, 1, "b", api.ErrNil}, {nil, -1, "b", api.ErrNil}, {nil, 1, long, api.ErrNil}, {nil, 1000000000, long, api.ErrNil},
		{on, -1, "b", api.ErrArg}, {on, 1000000000, "b", api.ErrArg}, {on, 1 << 32, "b", api.ErrArg}, {on, math.MinInt, "", api.ErrArg}, {on, math.MaxInt, "", api.ErrArg},
		{on, -1, long, api.ErrArg}, {off, -1, "b", api.ErrArg}, {off, 1000000000, long, api.ErrArg},
		{on, 1, long, api.ErrLong}, {off, 1, long, api.ErrLong}, {on, 0, long + long, api.ErrLong},
		{off, 1, "b", api.ErrDown}, {off, 999999999, long[1:], api.ErrDown},
	} {
		writes := c.d.Writes()
		wantSave(t, c.d, c.n, c.body, c.want)
		if c.d.Writes() != writes {
			t.Errorf("a Save that answers %d makes raw writes", c.want)
		}
	}
	off.On()
	for _, d := range []*disk.Disk{on, off} {
		wantFiles(t, d, "draft", "d", "s000000001", plainBytes(1, "a"))
	}
}

func TestSaveOfTheGreatestSnapshot(t *testing.T) {
	body := strings.Repeat("x", api.MaxFile-12)
	d := with(t)
	wantSave(t, d, 999999999, body, api.OK)
	if b, e := d.Read("s999999999"); len(b) != api.MaxFile || e != api.OK {
		t.Errorf("the file has %d bytes", len(b))
	}
	if n, b, e := Load(d); n != 999999999 || string(b) != body || e != api.OK {
		t.Errorf("Load: %d, %d bytes, %d", n, len(b), e)
	}
	wantWrites(t, d, 0, func() { wantSave(t, d, 0, body+"x", api.ErrLong) })
	wantSave(t, d, 0, "", api.OK)
	wantFiles(t, d, "s000000000", plainBytes(0, ""))
}

func TestSaveRemovesAllOthers(t *testing.T) {
	for _, c := range []struct {
		name   string
		files  []string
		writes int
	}{
		{"no files", nil, 3},
		{"a smaller one", []string{"s000000004", plainBytes(4, "a")}, 4},
		{"a greater one", []string{"s000000006", plainBytes(6, "a")}, 4},
		{"one with the same number", []string{"s000000005", plainBytes(5, "a")}, 3},
		{"one with the same number, torn", []string{"s000000005", plainBytes(5, "a")[:7]}, 3},
		{"several", []string{"s000000000", plainBytes(0, "z"), "s000000004", plainBytes(4, "a"), "s000000005", "", "s999999999", plainBytes(999999999, "b")}, 6},
		{"those that aren't whole", []string{"s000000001", "", "s000000007", "nothing"}, 5},
		{"a draft", []string{"draft", "x"}, 4},
		{"an empty draft", []string{"draft", ""}, 4},
		{"a draft that is whole", []string{"draft", plainBytes(5, "new")}, 4},
		{"a draft, and others", []string{"draft", "x", "s000000004", plainBytes(4, "a"), "s000000006", plainBytes(6, "b")}, 6},
	} {
		t.Run(c.name, func(t *testing.T) {
			d := with(t, c.files...)
			wantWrites(t, d, c.writes, func() { wantSave(t, d, 5, "new", api.OK) })
			wantFiles(t, d, "s000000005", plainBytes(5, "new"))
			wantLoad(t, d, 5, "new")
			if got := lookSafe(d); !slices.Equal(got, []string{"s000000005", plainBytes(5, "new")}) {
				t.Errorf("safe: %q", got)
			}
		})
	}
}

// near are names that are nearly a snapshot's.
var near = []string{
	"", "s", "s00000001", "s0000000001", "S000000001", "t000000001", "j000000001", "000000001", "0000000001",
	"s00000000a", "s-00000001", "s+00000001", "s 00000001", "s0x0000001", "s0_0000001", "s00000001 ", "ss00000001",
	"s000000001.", "draft1", "Draft", "draf", "s-000000001", "s+000000001", "s1", "s1000000000", "s00000000\xd9\xa1",
}

func TestNamesThatAreNearlyASnapshots(t *testing.T) {
	for _, name := range near {
		if name == "" {
			continue // no file can have it
		}
		whole := plainBytes(1, "near")
		d := with(t, name, whole, "s000000000", plainBytes(0, "a"))
		wantLoad(t, d, 0, "a")
		wantWrites(t, d, 4, func() { wantSave(t, d, 5, "new", api.OK) })
		want := map[string]string{name: whole, "s000000005": plainBytes(5, "new")}
		var list []string
		for _, k := range slices.Sorted(slices.Values([]string{name, "s000000005"})) {
			list = append(list, k, want[k])
		}
		wantFiles(t, d, list...)
		if d := with(t, name, whole); d != nil {
			wantLoad(t, d, -1, "")
		}
	}
	for _, name := range near {
		if n := numberOf(name); n != -1 {
			t.Errorf("%q is taken for the snapshot %d", name, n)
		}
	}
}

// TestTheRawWritesInTheirOrder lets the power go in each raw write in turn, and holds the files against those of which just the raw writes ahead of it were made.
func TestTheRawWritesInTheirOrder(t *testing.T) {
	lay := func() *disk.Disk {
		return with(t, "draft", "old", "other", "o", "s000000002", plainBytes(2, "two"), "s000000005", plainBytes(5, "five"),
			"s000000009", "torn", "s000000010", plainBytes(10, "ten"))
	}
	const all = 7 // Remove, Append, Sync, Rename, and Remove of 2, 9 and 10
	d := lay()
	if len(plainWrites(d, 5, "new")) != all {
		t.Fatal("the plain one makes another number of raw writes")
	}
	for k := 1; k <= all; k++ {
		d, plain := lay(), lay()
		d.Arm(k, 5)
		wantWrites(t, d, k, func() { wantSave(t, d, 5, "new", api.ErrDown) })
		plain.Arm(k, 5)
		for i, write := range plainWrites(plain, 5, "new") {
			if want := i+1 < k; (write() == api.OK) != want {
				t.Fatalf("raw write %d of the plain one, armed %d", i+1, k)
			}
		}
		d.On()
		plain.On()
		wantFiles(t, d, look(plain)...)
	}
	d.Arm(all+1, 0)
	wantWrites(t, d, all, func() { wantSave(t, d, 5, "new", api.OK) })
	wantFiles(t, d, "other", "o", "s000000005", plainBytes(5, "new"))
}

func TestOthersAreRemovedRising(t *testing.T) {
	for k, left := range [][]string{
		{"s000000004", "s000000017", "s000000030", "s000000200"},
		{"s000000017", "s000000030", "s000000200"},
		{"s000000017", "s000000200"},
	} {
		d := with(t, "s000000030", "", "s000000004", "", "s000000200", "", "s000000017", "")
		d.Arm(4+k, 0)
		wantSave(t, d, 17, "x", api.ErrDown)
		d.On()
		if !slices.Equal(d.Names(), left) {
			t.Errorf("behind %d removals: %q, want %q", k, d.Names(), left)
		}
	}
}

func TestSaveOnADiskThatIsFullInBytes(t *testing.T) {
	body := "0123456789" // 22 bytes with the twelve
	ahead := plainBytes(3, "abc")
	for _, c := range []struct {
		room  int
		draft string
		want  api.Errno
	}{
		{15 + 22, "", api.OK}, {15 + 21, "", api.ErrFull}, {15, "", api.ErrFull}, {0, "", api.ErrFull},
		{15 + 22, "a draft of some bytes", api.OK}, {15 + 21, "a draft of some bytes", api.ErrFull},
	} {
		d := with(t, "s000000003", ahead)
		writes := 4
		if c.draft != "" {
			d.Append("draft", []byte(c.draft))
			writes++
		}
		d.Room(c.room)
		if c.want != api.OK {
			writes -= 4 // the Append is refused, and so not counted; the draft is gone
		}
		wantWrites(t, d, writes, func() { wantSave(t, d, 4, body, c.want) })
		if c.want == api.OK {
			wantFiles(t, d, "s000000004", plainBytes(4, body))
			continue
		}
		wantFiles(t, d, "s000000003", ahead)
		wantLoad(t, d, 3, "abc")
	}
}

func TestSaveOnADiskThatIsFullInFiles(t *testing.T) {
	fill := func(n int) *disk.Disk {
		d := with(t, "s000000003", plainBytes(3, "abc"))
		for i := range n - 1 {
			d.Append("file"+strconv.Itoa(i), nil)
		}
		return d
	}
	d := fill(api.MaxFiles)
	before := look(d)
	wantWrites(t, d, 0, func() { wantSave(t, d, 4, "x", api.ErrFull) })
	wantWrites(t, d, 0, func() { wantSave(t, d, 3, "x", api.ErrFull) })
	wantFiles(t, d, before...)
	d = fill(api.MaxFiles - 1)
	wantWrites(t, d, 4, func() { wantSave(t, d, 4, "x", api.OK) })
	wantLoad(t, d, 4, "x")
	d = fill(api.MaxFiles - 1)
	d.Append("draft", []byte("x"))
	wantWrites(t, d, 5, func() { wantSave(t, d, 4, "y", api.OK) })
	wantLoad(t, d, 4, "y")
	if len(d.Names()) != api.MaxFiles-1 {
		t.Errorf("files: %q", d.Names())
	}
}

func TestLoad(t *testing.T) {
	for _, c := range []struct {
		name  string
		files []string
		n     int
		body  string
	}{
		{"no files", nil, -1, ""},
		{"one", []string{"s000000007", plainBytes(7, "ab")}, 7, "ab"},
		{"the least number", []string{"s000000000", plainBytes(0, "ab")}, 0, "ab"},
		{"the greatest number", []string{"s999999999", plainBytes(999999999, "ab")}, 999999999, "ab"},
		{"one without bytes of its own", []string{"s000000007", plainBytes(7, "")}, 7, ""},
		{"several", []string{"s000000007", plainBytes(7, "a"), "s000000010", plainBytes(10, "b"), "s000000009", plainBytes(9, "c")}, 10, "b"},
		{"the greatest is cut off", []string{"s000000007", plainBytes(7, "a"), "s000000010", plainBytes(10, "b")[:12]}, 7, "a"},
		{"the greatest is empty", []string{"s000000007", plainBytes(7, "a"), "s000000010", ""}, 7, "a"},
		{"the greatest has something behind", []string{"s000000007", plainBytes(7, "a"), "s000000010", plainBytes(10, "b") + "c"}, 7, "a"},
		{"the greatest is another's", []string{"s000000007", plainBytes(7, "a"), "s000000010", plainBytes(11, "b")}, 7, "a"},
		{"the greatest has a wrong sum", []string{"s000000007", plainBytes(7, "a"), "s000000010", plainBytes(10, "b")[:12] + "c"}, 7, "a"},
		{"the two greatest aren't whole", []string{"s000000007", plainBytes(7, "a"), "s000000010", "x", "s000000011", "y"}, 7, "a"},
		{"none is whole", []string{"s000000007", plainBytes(8, "a"), "s000000010", "x", "s000000011", ""}, -1, ""},
		{"a draft alone", []string{"draft", plainBytes(7, "a")}, -1, ""},
		{"a draft with a greater number", []string{"draft", plainBytes(9, "b"), "s000000007", plainBytes(7, "a")}, 7, "a"},
	} {
		t.Run(c.name, func(t *testing.T) {
			d := with(t, c.files...)
			before := look(d)
			wantWrites(t, d, 0, func() { wantLoad(t, d, c.n, c.body) })
			wantFiles(t, d, before...)
		})
	}
}

func TestLoadOfWhatWaits(t *testing.T) {
	d := disk.New(room)
	d.Append("s000000004", []byte(plainBytes(4, "x")))
	wantLoad(t, d, 4, "x")
	d.Off(14)
	d.On()
	wantLoad(t, d, 4, "x")
}

func TestLoadRefuses(t *testing.T) {
	wantNoLoad(t, nil, api.ErrNil)
	d := with(t, "s000000007", plainBytes(7, "a"))
	d.Off(0)
	wantNoLoad(t, d, api.ErrDown)
	d.On()
	wantLoad(t, d, 7, "a")
	d = disk.New(room)
	d.Off(0)
	wantNoLoad(t, d, api.ErrDown)
}

// pair is one disk under the package's calls, and its twin under the plain ones.
type pair struct{ d, plain *disk.Disk }

func (p pair) both(do func(*disk.Disk)) {
	do(p.d)
	do(p.plain)
}

// step does something to both disks, and tells how they differ.
func (p pair) step(r *rand.Rand) string {
	n, body := r.IntN(6)-1, strings.Repeat("q", r.IntN(6))
	switch r.IntN(12) {
	case 0, 1, 2, 3:
		if a, b := Save(p.d, n, []byte(body)), plainSave(p.plain, n, body); a != b {
			return "Save: " + strconv.Itoa(int(a)) + ", want " + strconv.Itoa(int(b))
		}
	case 4:
		k, keep := r.IntN(8), r.IntN(20)
		p.both(func(d *disk.Disk) { d.Arm(k, keep) })
	case 5, 6:
		p.both((*disk.Disk).On)
	case 7:
		keep := r.IntN(20)
		p.both(func(d *disk.Disk) { d.Off(keep) })
	case 8:
		size := r.IntN(120)
		p.both(func(d *disk.Disk) { d.Room(size) })
	case 9:
		name := []string{"draft", "s000000001", "s000000003", "s00000001", "x", "y"}[r.IntN(6)]
		b := []byte(plainBytes(r.IntN(4), body))
		p.both(func(d *disk.Disk) { d.Append(name, b) })
	case 10:
		name := []string{"draft", "s000000001", "s000000003", "s00000001", "x", "y"}[r.IntN(6)]
		size := r.IntN(14)
		p.both(func(d *disk.Disk) { d.Truncate(name, size) })
	case 11:
		p.both(func(d *disk.Disk) { d.Remove("s00000001"); d.Remove("x") })
	}
	return ""
}

func (p pair) same() bool {
	if p.d.Down() != p.plain.Down() || p.d.Writes() != p.plain.Writes() || !slices.Equal(look(p.d), look(p.plain)) {
		return false
	}
	n, body, e := Load(p.d)
	m, s, f := plainLoad(p.plain)
	return n == m && string(body) == s && e == f
}

func TestAgainstThePlainOne(t *testing.T) {
	for seed := range uint64(200) {
		r := source(100 + seed)
		p := pair{disk.New(100), disk.New(100)}
		for i := range 200 {
			if wrong := p.step(r); wrong != "" {
				t.Fatalf("seed %d, step %d: %s", seed, i, wrong)
			}
			if !p.same() {
				t.Fatalf("seed %d, step %d: %q, want %q", seed, i, look(p.d), look(p.plain))
			}
		}
	}
}

// P5.2: wherever the power goes within Save, Load finds the new snapshot, or the one with the greatest number ahead of it.

// aheads are disks as they may be ahead of a Save: their snapshots are safe.
func aheads() [][]string {
	return [][]string{
		nil,
		{"s000000004", plainBytes(4, "four")},
		{"s000000005", plainBytes(5, "five")},
		{"s000000006", plainBytes(6, "six")},
		{"draft", plainBytes(9, "nine"), "s000000004", plainBytes(4, "four")},
		{"draft", "x", "s000000005", plainBytes(5, "five")},
		{"s000000002", plainBytes(2, "two"), "s000000004", plainBytes(4, "four"), "s000000005", plainBytes(5, "five")},
		{"s000000002", plainBytes(2, "two"), "s000000006", plainBytes(6, "six"), "s000000008", plainBytes(8, "eight")},
		{"s000000002", plainBytes(2, "two"), "s000000008", "torn"},
		{"s000000005", "torn"},
	}
}

// checkLoss lets the power go in the k-th raw write of a Save, and answers whether it went.
func checkLoss(t *testing.T, files []string, k, keep int) bool {
	t.Helper()
	const body = "the new one"
	d := with(t, files...)
	ahead, old, _ := plainLoad(d)
	d.Arm(k, keep)
	e := Save(d, 5, []byte(body))
	if e == api.OK {
		d.Arm(0, 0)
		wantLoad(t, d, 5, body)
		return false
	}
	if e != api.ErrDown {
		t.Errorf("%q, %d, %d: Save: %d", files, k, keep, e)
	}
	wantNoLoad(t, d, api.ErrDown)
	d.On()
	n, b, e := Load(d)
	if e != api.OK || (n != 5 || string(b) != body) && (n != ahead || string(b) != old) {
		t.Errorf("%q, %d, %d: Load: %d, %q, %d", files, k, keep, n, b, e)
	}
	// The next Save sets all right.
	wantSave(t, d, 7, "next", api.OK)
	wantFiles(t, d, "s000000007", plainBytes(7, "next"))
	wantLoad(t, d, 7, "next")
	return true
}

func TestThePowerGoesInEveryRawWrite(t *testing.T) {
	size := len(plainBytes(5, "the new one"))
	for _, files := range aheads() {
		most := len(plainWrites(with(t, files...), 5, ""))
		for keep := -1; keep <= size+1; keep++ {
			for k := 1; k <= most; k++ {
				if !checkLoss(t, files, k, keep) {
					t.Errorf("%q: the raw write %d wasn't made", files, k)
				}
			}
			if checkLoss(t, files, most+1, keep) {
				t.Errorf("%q: there is a raw write %d", files, most+1)
			}
		}
	}
}

// TestThePowerGoesBehindSave: what a Save answered is safe, so nothing of it hangs on what is kept.
func TestThePowerGoesBehindSave(t *testing.T) {
	for _, files := range aheads() {
		d := with(t, files...)
		wantSave(t, d, 5, "the new one", api.OK)
		d.Off(0)
		d.On()
		wantLoad(t, d, 5, "the new one")
		wantFiles(t, d, "s000000005", plainBytes(5, "the new one"))
	}
}

func TestThePowerGoesAgainAndAgain(t *testing.T) {
	for seed := range uint64(50) {
		r := source(1000 + seed)
		d := disk.New(1 << 12) // for many snapshots: a disk that is full with them stays so, as others are removed last
		last, body := -1, ""
		for i := range 60 {
			next := strings.Repeat("y", r.IntN(30)) + strconv.Itoa(i)
			d.Arm(r.IntN(8), r.IntN(50))
			e := Save(d, i, []byte(next))
			d.On()
			n, b, le := Load(d)
			isNew := n == i && string(b) == next
			isOld := n == last && string(b) == body
			if le != api.OK || e == api.OK && !isNew || !isNew && !isOld {
				t.Fatalf("seed %d, %d: Save: %d; Load: %d, %q, %d", seed, i, e, n, b, le)
			}
			last, body = n, string(b)
		}
		if last < 30 {
			t.Errorf("seed %d: the last one is %d", seed, last)
		}
	}
}

// P5.3: there and back; no proper beginning of a snapshot's bytes is one, nor are they with something behind.

func TestThereAndBack(t *testing.T) {
	r := source(3)
	bodies := []string{"", "\x00", "\xff", "a", plainBytes(3, "within"), strings.Repeat("\x00", 40)}
	for range 200 {
		b := make([]byte, r.IntN(300))
		for i := range b {
			b[i] = byte(r.Uint32())
		}
		bodies = append(bodies, string(b))
	}
	for i, body := range bodies {
		n := []int{0, 1, 255, 256, 999999999, r.IntN(1000000000)}[i%6]
		wantDecode(t, n, string(Encode(n, []byte(body))), body, api.OK)
	}
}

func TestBeginningsAreNone(t *testing.T) {
	for _, body := range []string{"", "a", "0123456789", strings.Repeat("\x00", 30), plainBytes(8, plainBytes(8, "x"))} {
		b := string(Encode(8, []byte(body)))
		for n := range len(b) {
			wantDecode(t, 8, b[:n], "", api.ErrShort)
		}
		wantDecode(t, 8, b, body, api.OK)
		for _, behind := range []string{"\x00", "\xff", "a", b, strings.Repeat("\x00", 100)} {
			wantDecode(t, 8, b+behind, "", api.ErrForm)
		}
	}
}

// P5.4: what is handed in is neither changed nor kept; what is answered is new memory.

// roomy answers bytes with spare room behind them, and whether all of it is as it was.
func roomy(s string) ([]byte, func() bool) {
	all := []byte(s + "spare room spare room spare room")
	before := string(all)
	return all[:len(s)], func() bool { return string(all) == before }
}

func TestWhatIsHandedInStays(t *testing.T) {
	body, same := roomy("own bytes")
	Encode(3, body)
	d := with(t, "s000000001", plainBytes(1, "a"))
	if Save(d, 3, body) != api.OK || Save(nil, 3, body) != api.ErrNil || Save(d, -1, body) != api.ErrArg || !same() {
		t.Errorf("the bytes were changed: %q", body)
	}
	b, same := roomy(plainBytes(3, "own bytes"))
	for _, n := range []int{3, 4, -1} {
		Decode(n, b)
		Decode(n, b[:len(b)-1])
		Decode(n, b[:5])
	}
	if !same() {
		t.Errorf("the bytes were changed: %q", b)
	}
}

func wreck(b []byte) {
	for i := range b[:cap(b)] {
		b[:cap(b)][i] ^= 0xff
	}
}

func TestWhatIsHandedInIsntKept(t *testing.T) {
	body, _ := roomy("own bytes")
	b := Encode(3, body)
	d := disk.New(room)
	wantSave(t, d, 3, "own bytes", api.OK)
	if e := Save(d, 4, body); e != api.OK {
		t.Errorf("Save: %d", e)
	}
	wreck(body)
	if string(b) != plainBytes(3, "own bytes") {
		t.Errorf("Encode's answer hangs on the bytes: %q", b)
	}
	wantLoad(t, d, 4, "own bytes")
}

func TestAnswersAreNewMemory(t *testing.T) {
	b, same := roomy(plainBytes(3, "own bytes"))
	body, e := Decode(3, b)
	other, _ := Decode(3, b)
	if e != api.OK {
		t.Fatalf("Decode: %d", e)
	}
	wreck(body)
	if !same() || string(other) != "own bytes" {
		t.Errorf("Decode's answer is a part of what it was given")
	}
	d := with(t, "s000000003", plainBytes(3, "own bytes"))
	_, first, _ := Load(d)
	_, second, _ := Load(d)
	wreck(first)
	if string(second) != "own bytes" {
		t.Errorf("two answers share memory: %q", second)
	}
	wantLoad(t, d, 3, "own bytes")
	in, same := roomy("own bytes")
	wreck(Encode(3, in))
	if !same() {
		t.Errorf("Encode's answer is a part of what it was given: %q", in)
	}
	in, same = roomy("")
	wreck(Encode(3, in))
	if !same() {
		t.Errorf("Encode's answer is in the spare room of what it was given")
	}
}
