package wal

import (
	"bytes"
	"encoding/binary"
	"hash/crc32"
	"math"
	"math/rand/v2"
	"slices"
	"strconv"
	"strings"
	"testing"

	"quern/api"
	"quern/disk"
)

// A plain journal is the chapter word by word, in another shape: it keeps nothing of what it read, but looks at its disk anew in every call.

type plainWal struct {
	d    *disk.Disk
	per  int
	sick api.Errno
}

// plainFrame takes the sum and the numbers' bytes from the library.
func plainFrame(record string) string {
	b := binary.LittleEndian.AppendUint32(nil, uint32(len(record)))
	b = binary.LittleEndian.AppendUint32(b, crc32.ChecksumIEEE([]byte(record)))
	return string(b) + record
}

// plainRecords cuts frame by frame off a text, by writing anew what a frame there would have to be.
func plainRecords(b string) (records []string, rest string) {
	for len(b) >= 8 {
		n := int(binary.LittleEndian.Uint32([]byte(b)))
		if n > 65536 || n > len(b)-8 || plainFrame(b[8:8+n]) != b[:8+n] {
			break
		}
		records, b = append(records, b[8:8+n]), b[8+n:]
	}
	return records, b
}

// plainNumber answers the number that a segment's name tells, 0 of another name.
func plainNumber(name string) int {
	if len(name) != 10 || name[0] != 'j' {
		return 0
	}
	n := 0
	for _, c := range []byte(name[1:]) {
		if c < '0' || c > '9' {
			return 0
		}
		n = 10*n + int(c-'0')
	}
	return n
}

func plainName(n int) string {
	s := strconv.Itoa(n)
	return "j" + "000000000"[len(s):] + s
}

func plainOpen(d *disk.Disk, per int) (w *plainWal, records []string, first int, e api.Errno) {
	if d == nil {
		return nil, nil, 0, api.ErrNil
	}
	if per < 1 {
		return nil, nil, 0, api.ErrArg
	}
	if d.Down() {
		return nil, nil, 0, api.ErrDown
	}
	seen, next, removed := false, 1, false
	first = 1
	for _, name := range d.Names() {
		n := plainNumber(name)
		if n == 0 {
			continue
		}
		if !seen {
			seen, next, first = true, n, n
		} else if removed || n != next {
			removed = true
			if e := d.Remove(name); e != api.OK {
				return nil, nil, 0, e
			}
			continue
		}
		b, _ := d.Read(name)
		list, rest := plainRecords(string(b))
		if rest != "" {
			if e := d.Truncate(name, len(b)-len(rest)); e != api.OK {
				return nil, nil, 0, e
			}
		}
		if e := d.Sync(name); e != api.OK {
			return nil, nil, 0, e
		}
		records, next = append(records, list...), next+len(list)
	}
	return &plainWal{d, per, api.OK}, records, first, api.OK
}

// segments answers the numbers of the segments, and of the last one how many records it has; the power is on.
func (p *plainWal) segments() (firsts []int, count int) {
	for _, name := range p.d.Names() {
		if n := plainNumber(name); n != 0 {
			firsts = append(firsts, n)
			b, _ := p.d.Read(name)
			list, _ := plainRecords(string(b))
			count = len(list)
		}
	}
	return firsts, count
}

func (p *plainWal) next() int {
	firsts, count := p.segments()
	if len(firsts) == 0 {
		return 1
	}
	return firsts[len(firsts)-1] + count
}

func (p *plainWal) add(record string) (int, api.Errno) {
	if len(record) > 65536 {
		return 0, api.ErrLong
	}
	if p.sick != api.OK {
		return 0, p.sick
	}
	if p.d.Down() {
		p.sick = api.ErrDown
		return 0, p.sick
	}
	number := p.next()
	firsts, count := p.segments()
	at := number
	if len(firsts) > 0 && count < p.per {
		at = firsts[len(firsts)-1]
	}
	if at > 999999999 {
		return 0, api.ErrFull
	}
	e := p.d.Append(plainName(at), []byte(plainFrame(record)))
	if e == api.ErrFull || e == api.ErrLong {
		return 0, api.ErrFull
	}
	if e == api.OK {
		e = p.d.Sync(plainName(at))
	}
	if e != api.OK {
		p.sick = e
		return 0, e
	}
	return number, api.OK
}

func (p *plainWal) prune(below int) (int, api.Errno) {
	if p.sick != api.OK {
		return 0, p.sick
	}
	firsts, _ := p.segments()
	for i := range firsts {
		if i+1 == len(firsts) || firsts[i+1] > below {
			return i, api.OK
		}
		if e := p.d.Remove(plainName(firsts[i])); e != api.OK {
			p.sick = e
			return 0, e
		}
	}
	return 0, api.OK
}

// Helpers of the tests.

const room = 1 << 24

func source(seed uint64) *rand.Rand { return rand.New(rand.NewPCG(4, seed)) }

// frames answers the frames of several records, one behind the other.
func frames(records ...string) string {
	s := ""
	for _, r := range records {
		s += plainFrame(r)
	}
	return s
}

// with answers a disk with these files, name and bytes in turn, all of them safe.
func with(t *testing.T, files ...string) *disk.Disk {
	t.Helper()
	d := disk.New(room)
	for i := 0; i < len(files); i += 2 {
		if d.Append(files[i], []byte(files[i+1])) != api.OK || d.Sync(files[i]) != api.OK {
			t.Fatalf("file %q can't be laid", files[i])
		}
	}
	return d
}

// look tells a disk's files, as name and bytes in turn; its power is on.
func look(d *disk.Disk) []string {
	var files []string
	for _, name := range d.Names() {
		b, _ := d.Read(name)
		files = append(files, name, string(b))
	}
	return files
}

// lookSafe tells what would be left of a disk if its power went now. It goes: nothing can be asked of a journal over it any more.
func lookSafe(d *disk.Disk) []string {
	d.Off(0)
	d.On()
	return look(d)
}

func wantFiles(t *testing.T, d *disk.Disk, files ...string) {
	t.Helper()
	if got := look(d); !slices.Equal(got, files) {
		t.Errorf("files: %q, want %q", got, files)
	}
}

func texts(records [][]byte) []string {
	var list []string
	for _, r := range records {
		list = append(list, string(r))
	}
	return list
}

// open opens a journal that can be opened.
func open(t *testing.T, d *disk.Disk, per int) *Wal {
	t.Helper()
	w, _, _, e := Open(d, per)
	if e != api.OK || w == nil {
		t.Fatalf("Open: %d", e)
	}
	return w
}

// wantOpen opens a journal and holds it against what it should find.
func wantOpen(t *testing.T, d *disk.Disk, per, first int, records ...string) *Wal {
	t.Helper()
	w, list, at, e := Open(d, per)
	if e != api.OK || w == nil || at != first || !slices.Equal(texts(list), records) {
		t.Fatalf("Open: %v, %q, %d, %d, want %q, %d", w != nil, texts(list), at, e, records, first)
	}
	wantNext(t, w, first+len(records))
	return w
}

func wantNoOpen(t *testing.T, d *disk.Disk, per int, want api.Errno) {
	t.Helper()
	if w, list, first, e := Open(d, per); w != nil || len(list) != 0 || first != 0 || e != want {
		t.Errorf("Open: %v, %q, %d, %d, want the error %d alone", w != nil, list, first, e, want)
	}
}

func wantNext(t *testing.T, w *Wal, next int) {
	t.Helper()
	if n := w.Next(); n != next {
		t.Errorf("Next: %d, want %d", n, next)
	}
}

func wantAppend(t *testing.T, w *Wal, record string, number int, want api.Errno) {
	t.Helper()
	if n, e := w.Append([]byte(record)); n != number || e != want {
		t.Errorf("Append of %d bytes: %d, %d, want %d, %d", len(record), n, e, number, want)
	}
}

func wantPrune(t *testing.T, w *Wal, below, removed int, want api.Errno) {
	t.Helper()
	if n, e := w.Prune(below); n != removed || e != want {
		t.Errorf("Prune(%d): %d, %d, want %d, %d", below, n, e, removed, want)
	}
}

// wantWrites holds how many raw writes do makes against n.
func wantWrites(t *testing.T, d *disk.Disk, n int, do func()) {
	t.Helper()
	before := d.Writes()
	do()
	if got := d.Writes() - before; got != n {
		t.Errorf("%d raw writes, want %d", got, n)
	}
}

// P4.1: all calls answer what is said, and make just the raw writes that are told.

func TestTheChaptersExamples(t *testing.T) {
	d := disk.New(1000)
	w := wantOpen(t, d, 2, 1)
	for i, r := range []string{"a", "b", "c"} {
		wantAppend(t, w, r, i+1, api.OK)
	}
	wantFiles(t, d, "j000000001", frames("a", "b"), "j000000003", frames("c"))
	wantPrune(t, w, 3, 1, api.OK)
	w = wantOpen(t, d, 2, 3, "c")
	d.Arm(1, 4)
	wantAppend(t, w, "d", 0, api.ErrDown)
	d.On()
	wantFiles(t, d, "j000000003", frames("c")+frames("d")[:4])
	wantOpen(t, d, 2, 3, "c")
	wantFiles(t, d, "j000000003", frames("c"))
}

func TestName(t *testing.T) {
	for _, c := range []struct {
		first int
		name  string
	}{
		{math.MinInt, ""}, {-1, ""}, {0, ""},
		{1, "j000000001"}, {9, "j000000009"}, {10, "j000000010"}, {12345678, "j012345678"},
		{123456789, "j123456789"}, {999999998, "j999999998"}, {999999999, "j999999999"},
		{1000000000, ""}, {1000000001, ""}, {math.MaxInt, ""},
	} {
		if n := Name(c.first); n != c.name {
			t.Errorf("Name(%d): %q, want %q", c.first, n, c.name)
		}
	}
	for n := 1; n < 1000000000; n = n*3 + 1 {
		if Name(n) != plainName(n) || plainNumber(Name(n)) != n {
			t.Errorf("Name(%d): %q", n, Name(n))
		}
	}
}

func TestFrame(t *testing.T) {
	for _, c := range []struct{ record, frame string }{
		{"", "\x00\x00\x00\x00\x00\x00\x00\x00"},
		{"a", "\x01\x00\x00\x00\x43\xbe\xb7\xe8a"},
		{"123456789", "\x09\x00\x00\x00\x26\x39\xf4\xcb123456789"},
	} {
		if f, e := Frame([]byte(c.record)); string(f) != c.frame || e != api.OK {
			t.Errorf("Frame of %q: %x, %d, want %x", c.record, f, e, c.frame)
		}
	}
	if f, e := Frame(nil); string(f) != plainFrame("") || e != api.OK {
		t.Errorf("Frame of nil: %x, %d", f, e)
	}
}

func TestFramesOfManyLengths(t *testing.T) {
	r := source(1)
	for _, n := range []int{1, 2, 255, 256, 257, 65535, api.MaxRecord} {
		b := make([]byte, n)
		for i := range b {
			b[i] = byte(r.Uint32())
		}
		if f, e := Frame(b); string(f) != plainFrame(string(b)) || e != api.OK {
			t.Errorf("Frame of %d bytes: %d bytes, %d", n, len(f), e)
		}
		if list, size := Records([]byte(plainFrame(string(b)))); len(list) != 1 || !bytes.Equal(list[0], b) || size != n+8 {
			t.Errorf("Records of %d bytes: %d records, %d bytes", n, len(list), size)
		}
	}
	for _, n := range []int{api.MaxRecord + 1, api.MaxRecord + 2, 1 << 21} {
		if f, e := Frame(make([]byte, n)); len(f) != 0 || e != api.ErrLong {
			t.Errorf("Frame of %d bytes: %d bytes, %d", n, len(f), e)
		}
	}
}

func wantRecords(t *testing.T, b string, size int, records ...string) {
	t.Helper()
	if list, n := Records([]byte(b)); n != size || !slices.Equal(texts(list), records) {
		t.Errorf("Records of %q: %q, %d, want %q, %d", b, texts(list), n, records, size)
	}
}

func TestRecords(t *testing.T) {
	wantRecords(t, "", 0)
	wantRecords(t, frames("a"), 9, "a")
	wantRecords(t, frames(""), 8, "")
	wantRecords(t, frames("", "", "x", ""), 33, "", "", "x", "")
	wantRecords(t, frames("abc", "de")+"x", 21, "abc", "de")
	if list, n := Records(nil); len(list) != 0 || n != 0 {
		t.Errorf("Records of nil: %q, %d", list, n)
	}
}

func TestFramesThatAreCutOff(t *testing.T) {
	records := []string{"abc", "", "0123456789", "z"}
	whole := frames(records...)
	for n := range len(whole) + 1 {
		size, count := 0, 0
		for count < len(records) && size+8+len(records[count]) <= n {
			size += 8 + len(records[count])
			count++
		}
		wantRecords(t, whole[:n], size, records[:count]...)
	}
}

func TestFramesThatAreDamaged(t *testing.T) {
	ahead, behind := frames("abc"), frames("uvw", "xyz")
	mid := frames("0123456789")
	for i := range len(mid) {
		for bit := range 8 {
			b := []byte(ahead + mid + behind)
			b[len(ahead)+i] ^= 1 << bit
			wantRecords(t, string(b), len(ahead), "abc")
		}
	}
}

func TestFramesWithNumbersThatCantBe(t *testing.T) {
	long := strings.Repeat("x", api.MaxRecord+1)
	ahead := frames("abc")
	wantRecords(t, ahead+frames(long), len(ahead), "abc")
	wantRecords(t, ahead+frames(long[1:]), len(ahead)+8+api.MaxRecord, "abc", long[1:])
	wantRecords(t, ahead+frames(long[1:])[:8+api.MaxRecord-1], len(ahead), "abc")
	for _, n := range []uint32{1, 2, api.MaxRecord, api.MaxRecord + 1, 1<<31 - 1, 1 << 31, 1<<32 - 8, 1<<32 - 1} {
		head := binary.LittleEndian.AppendUint32(nil, n) // the sum of nothing is nought
		wantRecords(t, ahead+string(head)+"\x00\x00\x00\x00", len(ahead), "abc")
	}
}

func TestOpenOfAnEmptyDisk(t *testing.T) {
	for _, per := range []int{1, 2, 1000, math.MaxInt} {
		d := disk.New(0)
		wantWrites(t, d, 0, func() { wantOpen(t, d, per, 1) })
		wantFiles(t, d)
	}
}

func TestOpensErrorsInTheirOrder(t *testing.T) {
	for _, per := range []int{math.MinInt, -1, 0, 1, 2} {
		wantNoOpen(t, nil, per, api.ErrNil)
	}
	files := []string{"j000000001", frames("a") + "x", "j000000003", frames("b")}
	for _, per := range []int{math.MinInt, -1, 0} {
		d := with(t, files...)
		wantWrites(t, d, 0, func() { wantNoOpen(t, d, per, api.ErrArg) })
		d.Off(0)
		wantNoOpen(t, d, per, api.ErrArg)
		d.On()
		wantFiles(t, d, files...)
	}
	d := with(t, files...)
	d.Off(0)
	wantWrites(t, d, 0, func() { wantNoOpen(t, d, 1, api.ErrDown) })
	d.On()
	wantFiles(t, d, files...)
}

func TestOpenReadsSegmentsByRisingNumbers(t *testing.T) {
	d := with(t, "j000000004", frames("d", "e"), "j000000002", frames("b", "c"), "j000000006", frames("f"), "j000000001", frames("a"))
	w := wantOpen(t, d, 2, 1, "a", "b", "c", "d", "e", "f")
	wantAppend(t, w, "g", 7, api.OK)
	wantFiles(t, d, "j000000001", frames("a"), "j000000002", frames("b", "c"), "j000000004", frames("d", "e"), "j000000006", frames("f", "g"))
}

func TestFilesWhoseNamesAreNearlyASegments(t *testing.T) {
	near := []string{"j000000000", "j00000001", "j0000000001", "k000000001", "J000000001", "000000001", "j", "j-00000001", "j+00000001", "j 00000001", "j00000000a", "j0000_0001", "j1000000000", "jj00000001", "j00000001 ", "j0000000\xb2"}
	for i := 0; i < len(near); i += 14 {
		files := []string{}
		for _, name := range near[i:min(i+14, len(near))] {
			files = append(files, name, frames("no")+"torn")
		}
		d := with(t, files...)
		w := wantOpen(t, d, 1, 1)
		wantAppend(t, w, "a", 1, api.OK)
		wantAppend(t, w, "b", 2, api.OK)
		w = wantOpen(t, d, 1, 1, "a", "b")
		wantPrune(t, w, 9, 1, api.OK)
		wantOpen(t, d, 1, 2, "b")
		if d.Remove("j000000002") != api.OK {
			t.Error("the segment that stays")
		}
		slices.Sort(near[i:min(i+14, len(near))])
		sorted := []string{}
		for _, name := range near[i:min(i+14, len(near))] {
			sorted = append(sorted, name, frames("no")+"torn")
		}
		wantFiles(t, d, sorted...)
	}
}

func TestTheFirstSegmentBeginsAnywhere(t *testing.T) {
	for _, n := range []int{1, 2, 7, 123456789, 999999999} {
		wantOpen(t, with(t, plainName(n), frames("a", "b")), 5, n, "a", "b")
		wantOpen(t, with(t, plainName(n), frames("a", "b")+"torn"), 5, n, "a", "b")
		wantOpen(t, with(t, plainName(n), ""), 5, n)
		wantOpen(t, with(t, plainName(n), "torn"), 5, n)
	}
}

func TestSegmentsThatDontGoOn(t *testing.T) {
	one, three := frames("a", "b"), frames("c")
	for _, c := range []struct {
		what    string
		files   []string
		left    []string
		records []string
	}{
		{"a gap", []string{"j000000001", one, "j000000004", three}, []string{"j000000001", one}, []string{"a", "b"}},
		{"a segment too early", []string{"j000000001", one, "j000000002", three}, []string{"j000000001", one}, []string{"a", "b"}},
		{"behind a gap", []string{"j000000001", one, "j000000004", three, "j000000005", three}, []string{"j000000001", one}, []string{"a", "b"}},
		{"behind one too early", []string{"j000000001", one, "j000000002", three, "j000000003", three, "j000000004", three}, []string{"j000000001", one}, []string{"a", "b"}},
		{"a gap later", []string{"j000000001", one, "j000000003", three, "j000000005", one, "j000000007", one}, []string{"j000000001", one, "j000000003", three}, []string{"a", "b", "c"}},
		{"behind a torn one", []string{"j000000001", one + "torn", "j000000003", three}, []string{"j000000001", one, "j000000003", three}, []string{"a", "b", "c"}},
		{"behind one that tore a record", []string{"j000000001", one[:len(one)-1], "j000000003", three}, []string{"j000000001", frames("a")}, []string{"a"}},
		{"behind an empty one", []string{"j000000001", "", "j000000002", three}, []string{"j000000001", ""}, nil},
		{"an empty one behind", []string{"j000000001", one, "j000000003", ""}, []string{"j000000001", one, "j000000003", ""}, []string{"a", "b"}},
		{"behind an empty one behind", []string{"j000000001", one, "j000000003", "", "j000000004", three}, []string{"j000000001", one, "j000000003", ""}, []string{"a", "b"}},
		{"with others between", []string{"j00000000x", "x", "j000000001", one, "j000000002", "", "j00000000z", "z"}, []string{"j000000001", one, "j00000000x", "x", "j00000000z", "z"}, []string{"a", "b"}},
	} {
		d := with(t, c.files...)
		wantOpen(t, d, 2, 1, c.records...)
		wantFiles(t, d, c.left...)
		wantOpen(t, d, 2, 1, c.records...)
		wantFiles(t, d, c.left...)
	}
}

func TestTheLastSegmentTakesWhatItHasPlaceFor(t *testing.T) {
	for _, c := range []struct {
		per   int
		files []string
		left  []string
	}{
		{1, []string{"j000000001", ""}, []string{"j000000001", frames("x")}},
		{2, []string{"j000000001", frames("a")}, []string{"j000000001", frames("a", "x")}},
		{1, []string{"j000000001", frames("a")}, []string{"j000000001", frames("a"), "j000000002", frames("x")}},
		{1, []string{"j000000001", frames("a", "b", "c")}, []string{"j000000001", frames("a", "b", "c"), "j000000004", frames("x")}},
		{2, []string{"j000000001", frames("a", "b", "c")}, []string{"j000000001", frames("a", "b", "c"), "j000000004", frames("x")}},
		{3, []string{"j000000001", frames("a", "b", "c")}, []string{"j000000001", frames("a", "b", "c"), "j000000004", frames("x")}},
		{4, []string{"j000000001", frames("a", "b", "c")}, []string{"j000000001", frames("a", "b", "c", "x")}},
		{2, []string{"j000000007", frames("a", "b", "c"), "j000000010", ""}, []string{"j000000007", frames("a", "b", "c"), "j000000010", frames("x")}},
		{math.MaxInt, []string{"j000000007", frames("a")}, []string{"j000000007", frames("a", "x")}},
	} {
		d := with(t, c.files...)
		w := open(t, d, c.per)
		wantAppend(t, w, "x", w.Next(), api.OK)
		wantFiles(t, d, c.left...)
	}
}

func TestANewSegmentForEveryPerRecords(t *testing.T) {
	for per := 1; per <= 4; per++ {
		d := disk.New(room)
		w := open(t, d, per)
		files := []string{}
		for n := 1; n <= 12; n++ {
			wantNext(t, w, n)
			record := strconv.Itoa(n)
			wantAppend(t, w, record, n, api.OK)
			if (n-1)%per == 0 {
				files = append(files, plainName(n), "")
			}
			files[len(files)-1] += frames(record)
			wantFiles(t, d, files...)
		}
		wantNext(t, w, 13)
	}
}

func TestALastNumberWithoutANextName(t *testing.T) {
	d := with(t, "j999999998", frames("a"), "j999999999", "")
	w := wantOpen(t, d, 1, 999999998, "a")
	wantAppend(t, w, "b", 999999999, api.OK)
	files := []string{"j999999998", frames("a"), "j999999999", frames("b")}
	wantFiles(t, d, files...)
	wantWrites(t, d, 0, func() { wantAppend(t, w, "c", 0, api.ErrFull) })
	wantWrites(t, d, 0, func() { wantAppend(t, w, strings.Repeat("c", api.MaxRecord+1), 0, api.ErrLong) })
	wantNext(t, w, 1000000000)
	wantFiles(t, d, files...)
	d.Off(0)
	wantAppend(t, w, "c", 0, api.ErrFull) // the disk isn't asked
	d.On()
	wantPrune(t, w, 999999999, 1, api.OK)
	w = wantOpen(t, d, 2, 999999999, "b")
	wantAppend(t, w, "c", 1000000000, api.OK)
	wantAppend(t, w, "d", 0, api.ErrFull)
	wantOpen(t, d, 3, 999999999, "b", "c")
}

func TestPrune(t *testing.T) {
	files := []string{"j000000003", frames("c"), "j000000004", frames("d", "e"), "j000000006", frames("f"), "j000000007", frames("g")}
	for _, c := range []struct{ below, removed int }{
		{math.MinInt, 0}, {-1, 0}, {0, 0}, {1, 0}, {3, 0}, {4, 1}, {5, 1}, {6, 2}, {7, 3}, {8, 3}, {9, 3}, {math.MaxInt, 3},
	} {
		d := with(t, files...)
		w := open(t, d, 2)
		wantWrites(t, d, c.removed, func() { wantPrune(t, w, c.below, c.removed, api.OK) })
		wantFiles(t, d, files[2*c.removed:]...)
		wantNext(t, w, 8)
		wantWrites(t, d, 0, func() { wantPrune(t, w, c.below, 0, api.OK) })
		wantPrune(t, w, 7, 3-c.removed, api.OK)
		wantAppend(t, w, "h", 8, api.OK)
		wantOpen(t, d, 2, 7, "g", "h")
	}
}

func TestPruneOfFewSegments(t *testing.T) {
	d := disk.New(room)
	w := open(t, d, 1)
	wantPrune(t, w, math.MaxInt, 0, api.OK)
	wantAppend(t, w, "a", 1, api.OK)
	wantPrune(t, w, math.MaxInt, 0, api.OK)
	wantAppend(t, w, "b", 2, api.OK)
	wantPrune(t, w, 1, 0, api.OK)
	wantPrune(t, w, 2, 1, api.OK)
	wantPrune(t, w, 2, 0, api.OK)
	wantFiles(t, d, "j000000002", frames("b"))
}

func TestPruneLeavesAnEmptyLastSegment(t *testing.T) {
	d := with(t, "j000000001", frames("a"), "j000000002", "")
	w := open(t, d, 1)
	wantPrune(t, w, 1, 0, api.OK)
	wantPrune(t, w, 2, 1, api.OK)
	wantFiles(t, d, "j000000002", "")
	wantOpen(t, d, 1, 2)
}

func TestPruneAndAppendInTurn(t *testing.T) {
	d := disk.New(room)
	w := open(t, d, 2)
	for n := 1; n <= 200; n++ {
		wantAppend(t, w, strconv.Itoa(n), n, api.OK)
		if n%6 == 0 {
			wantPrune(t, w, n-1, min(n/2-1, 3), api.OK)
		}
	}
	if len(d.Names()) != 2 {
		t.Errorf("files: %q", d.Names())
	}
}

func TestPruneWithoutAnythingToDoNeedsNoPower(t *testing.T) {
	d := with(t, "j000000001", frames("a"), "j000000002", frames("b"))
	w := open(t, d, 1)
	d.Off(0)
	wantPrune(t, w, 1, 0, api.OK)
	wantPrune(t, w, 2, 0, api.ErrDown)
	wantPrune(t, w, 1, 0, api.ErrDown)
}

func TestOfANilJournal(t *testing.T) {
	var w *Wal
	wantNext(t, w, 0)
	for _, n := range []int{math.MinInt, 0, 1, math.MaxInt} {
		wantPrune(t, w, n, 0, api.ErrNil)
	}
	for _, r := range []string{"", "a", strings.Repeat("a", api.MaxRecord+1)} {
		wantAppend(t, w, r, 0, api.ErrNil)
	}
	if n, e := w.Append(nil); n != 0 || e != api.ErrNil {
		t.Errorf("Append of nil: %d, %d", n, e)
	}
}

func TestRecordsOfAllLengths(t *testing.T) {
	d := disk.New(room)
	w := open(t, d, 3)
	longest := strings.Repeat("m", api.MaxRecord)
	if n, e := w.Append(nil); n != 1 || e != api.OK {
		t.Errorf("Append of nil: %d, %d", n, e)
	}
	wantAppend(t, w, "", 2, api.OK)
	wantAppend(t, w, longest, 3, api.OK)
	wantWrites(t, d, 0, func() { wantAppend(t, w, longest+"m", 0, api.ErrLong) })
	wantNext(t, w, 4)
	wantAppend(t, w, "x", 4, api.OK)
	wantOpen(t, d, 3, 1, "", "", longest, "x")
}

func TestASickJournal(t *testing.T) {
	files := []string{"j000000001", frames("a"), "j000000002", frames("b")}
	long := strings.Repeat("x", api.MaxRecord+1)
	for _, c := range []struct {
		what string
		harm func(t *testing.T, d *disk.Disk, w *Wal)
		left []string
	}{
		{"in the disk's Append", func(t *testing.T, d *disk.Disk, w *Wal) { d.Arm(1, 0); wantAppend(t, w, "c", 0, api.ErrDown) }, append(slices.Clone(files), "j000000003", "")},
		{"in Sync", func(t *testing.T, d *disk.Disk, w *Wal) { d.Arm(2, 99); wantAppend(t, w, "c", 0, api.ErrDown) }, append(slices.Clone(files), "j000000003", frames("c"))},
		{"ahead of Append", func(t *testing.T, d *disk.Disk, w *Wal) { d.Off(0); wantAppend(t, w, "c", 0, api.ErrDown) }, files},
		{"in Prune", func(t *testing.T, d *disk.Disk, w *Wal) { d.Arm(1, 0); wantPrune(t, w, 2, 0, api.ErrDown) }, files},
		{"ahead of Prune", func(t *testing.T, d *disk.Disk, w *Wal) { d.Off(0); wantPrune(t, w, 2, 0, api.ErrDown) }, files},
	} {
		d := with(t, files...)
		w := open(t, d, 1)
		c.harm(t, d, w)
		d.On()
		wantFiles(t, d, c.left...)
		wantWrites(t, d, 0, func() {
			wantAppend(t, w, "c", 0, api.ErrDown)
			wantAppend(t, w, long, 0, api.ErrLong)
			wantPrune(t, w, 2, 0, api.ErrDown)
			wantPrune(t, w, 0, 0, api.ErrDown)
			d.Room(0)
			wantAppend(t, w, "c", 0, api.ErrDown)
			d.Room(room)
			wantNext(t, w, 3)
		})
		wantFiles(t, d, c.left...)
	}
}

func TestSickComesAheadOfFull(t *testing.T) {
	d := with(t, "j999999998", frames("a"), "j999999999", frames("b"))
	w := open(t, d, 1)
	wantAppend(t, w, "c", 0, api.ErrFull)
	d.Arm(1, 0)
	wantPrune(t, w, 999999999, 0, api.ErrDown)
	d.On()
	wantAppend(t, w, "c", 0, api.ErrDown)
}

func TestAnotherErrorOfTheDiskIsKept(t *testing.T) {
	d := with(t, "j000000001", frames("a"), "j000000002", frames("b"))
	w := open(t, d, 1)
	d.Remove("j000000001")
	wantPrune(t, w, 2, 0, api.ErrFile)
	wantAppend(t, w, "c", 0, api.ErrFile)
	wantPrune(t, w, 0, 0, api.ErrFile)
}

// powerless answers what is left on the disk that lay makes, if the power goes in the n-th raw write of do, for all n that there are: the order of the raw writes can be seen by it.
func powerless(lay func() *disk.Disk, keep int, do func(d *disk.Disk)) [][]string {
	var left [][]string
	for n := 1; ; n++ {
		d := lay()
		d.Arm(n, keep)
		do(d)
		if !d.Down() {
			return left
		}
		d.On()
		left = append(left, look(d))
	}
}

func wantLeft(t *testing.T, got, want [][]string) {
	t.Helper()
	if !slices.EqualFunc(got, want, slices.Equal[[]string]) {
		t.Errorf("left: %q, want %q", got, want)
	}
}

func TestTheRawWritesOfOpen(t *testing.T) {
	a, b, c := frames("a"), frames("b"), frames("c")
	lay := func() *disk.Disk {
		d := disk.New(room)
		for _, f := range [][2]string{{"j000000001", a}, {"j000000002", b + "torn"}, {"j000000003", c}, {"j000000005", "x"}, {"j000000006", "y"}} {
			d.Append(f[0], []byte(f[1]))
		}
		d.Sync("j000000005")
		d.Sync("j000000006")
		return d
	}
	d := lay()
	wantWrites(t, d, 6, func() { wantOpen(t, d, 1, 1, "a", "b", "c") })
	if got := lookSafe(d); !slices.Equal(got, []string{"j000000001", a, "j000000002", b, "j000000003", c}) {
		t.Errorf("safe: %q", got)
	}
	wantLeft(t, powerless(lay, 0, func(d *disk.Disk) { Open(d, 1) }), [][]string{
		{"j000000001", "", "j000000002", "", "j000000003", "", "j000000005", "x", "j000000006", "y"}, // in Sync of 1
		{"j000000001", a, "j000000002", "", "j000000003", "", "j000000005", "x", "j000000006", "y"},  // in Truncate of 2
		{"j000000001", a, "j000000002", "", "j000000003", "", "j000000005", "x", "j000000006", "y"},  // in Sync of 2
		{"j000000001", a, "j000000002", b, "j000000003", "", "j000000005", "x", "j000000006", "y"},   // in Sync of 3
		{"j000000001", a, "j000000002", b, "j000000003", c, "j000000005", "x", "j000000006", "y"},    // in Remove of 5
		{"j000000001", a, "j000000002", b, "j000000003", c, "j000000006", "y"},                       // in Remove of 6
	})
	wantLeft(t, powerless(lay, 99, func(d *disk.Disk) { Open(d, 1) })[:3], [][]string{
		{"j000000001", a, "j000000002", b + "torn", "j000000003", c, "j000000005", "x", "j000000006", "y"},
		{"j000000001", a, "j000000002", b + "torn", "j000000003", c, "j000000005", "x", "j000000006", "y"},
		{"j000000001", a, "j000000002", b, "j000000003", c, "j000000005", "x", "j000000006", "y"},
	})
}

func TestOpenAnswersTheDisksError(t *testing.T) {
	for n := 1; n <= 3; n++ {
		d := with(t, "j000000001", frames("a")+"torn", "j000000003", frames("c"))
		d.Arm(n, 0)
		wantNoOpen(t, d, 1, api.ErrDown)
		if !d.Down() {
			t.Error("the power is on")
		}
	}
}

func TestOpenSyncsSegmentsThatAreWholeAndEmpty(t *testing.T) {
	d := with(t, "j000000001", frames("a"), "j000000002", "", "other", "x")
	wantWrites(t, d, 2, func() { wantOpen(t, d, 1, 1, "a") })
	d = with(t, "j000000001", "torn")
	wantWrites(t, d, 2, func() { wantOpen(t, d, 1, 1) })
	wantWrites(t, d, 1, func() { wantOpen(t, d, 1, 1) })
}

func TestTheRawWritesOfAppend(t *testing.T) {
	a, b := frames("a"), frames("b")
	lay := func() *disk.Disk { return with(t, "j000000001", a) }
	for per, left := range map[int][][]string{
		1: {{"j000000001", a, "j000000002", b[:5]}, {"j000000001", a, "j000000002", b[:5]}},
		2: {{"j000000001", a + b[:5]}, {"j000000001", a + b[:5]}},
	} {
		wantLeft(t, powerless(lay, 5, func(d *disk.Disk) {
			if w, _, _, e := Open(d, per); e == api.OK { // Open's raw write is the first
				w.Append([]byte("b"))
			}
		})[1:], left)
		d := lay()
		w := open(t, d, per)
		wantWrites(t, d, 2, func() { wantAppend(t, w, "b", 2, api.OK) })
		if got := strings.Join(lookSafe(d), ""); !strings.HasSuffix(got, b) {
			t.Errorf("safe: %q", got)
		}
	}
}

func TestTheRawWritesOfPrune(t *testing.T) {
	files := []string{"j000000001", frames("a"), "j000000002", frames("b"), "j000000003", frames("c"), "j000000004", frames("d")}
	lay := func() *disk.Disk { return with(t, files...) }
	left := powerless(lay, 0, func(d *disk.Disk) {
		if w, _, _, e := Open(d, 1); e == api.OK { // Open's raw writes are the first four
			w.Prune(4)
		}
	})
	wantLeft(t, left[4:], [][]string{files, files[2:], files[4:]})
}

// Journals over disks with any files, held against the plain journal.

// anyDisk answers twice the same disk: files with names and bytes of all sorts, safe and waiting.
func anyDisk(r *rand.Rand) (*disk.Disk, *disk.Disk) {
	x, y := disk.New(room), disk.New(room)
	next := 1 + r.IntN(3)
	for range r.IntN(7) {
		name := plainName(max(next+(r.IntN(12)-9)/2*r.IntN(2), 1))
		if r.IntN(10) == 0 {
			name = "j00000000" + string(rune('a'+r.IntN(3)))
		}
		b := ""
		for range r.IntN(4) {
			b += frames(strings.Repeat("r", r.IntN(3)))
			next++
		}
		if r.IntN(4) == 0 {
			b += frames("torn")[:r.IntN(12)]
		}
		if r.IntN(6) == 0 && b != "" {
			damaged := []byte(b)
			damaged[r.IntN(len(b))] ^= 1 << r.IntN(8)
			b = string(damaged)
		}
		for _, d := range []*disk.Disk{x, y} {
			d.Append(name, []byte(b))
		}
		if r.IntN(2) == 0 {
			x.Sync(name)
			y.Sync(name)
		}
	}
	return x, y
}

func alike(t *testing.T, what string, x, y *disk.Disk) bool {
	t.Helper()
	if x.Down() != y.Down() || x.Writes() != y.Writes() || !slices.Equal(look(x), look(y)) {
		t.Errorf("%s: %v, %d raw writes, %q; want %v, %d raw writes, %q", what, x.Down(), x.Writes(), look(x), y.Down(), y.Writes(), look(y))
		return false
	}
	return true
}

// reopen opens both, and answers nil if the two answers differ or there is none.
func reopen(t *testing.T, x, y *disk.Disk, per int) (*Wal, *plainWal) {
	t.Helper()
	w, list, first, e := Open(x, per)
	p, texts2, first2, e2 := plainOpen(y, per)
	if (w == nil) != (p == nil) || !slices.Equal(texts(list), texts2) || first != first2 || e != e2 {
		t.Errorf("Open: %q, %d, %d; want %q, %d, %d", texts(list), first, e, texts2, first2, e2)
		return nil, nil
	}
	return w, p
}

// act does one thing to both, and answers whether it was answered alike.
func act(r *rand.Rand, w *Wal, p *plainWal, x, y *disk.Disk) (string, bool) {
	switch k := r.IntN(20); {
	case k < 10:
		record := strings.Repeat("q", r.IntN(6))
		n, e := w.Append([]byte(record))
		n2, e2 := p.add(record)
		return "Append", n == n2 && e == e2
	case k < 14:
		below := r.IntN(12) - 1
		n, e := w.Prune(below)
		n2, e2 := p.prune(below)
		return "Prune", n == n2 && e == e2
	case k < 16:
		return "Next", p.sick != api.OK || x.Down() || w.Next() == p.next()
	case k < 18:
		n := r.IntN(60)
		if n < 30 {
			n = room
		}
		x.Room(n)
		y.Room(n)
		return "Room", true
	default:
		n, keep := 1+r.IntN(5), r.IntN(14)-1
		x.Arm(n, keep)
		y.Arm(n, keep)
		return "Arm", true
	}
}

func TestAllCallsOverEveryDisk(t *testing.T) {
	for seed := range uint64(4000) {
		r := source(seed)
		x, y := anyDisk(r)
		for range 4 {
			if r.IntN(3) == 0 {
				n, keep := 1+r.IntN(9), r.IntN(14)-1
				x.Arm(n, keep)
				y.Arm(n, keep)
			}
			w, p := reopen(t, x, y, 1+r.IntN(3))
			for range r.IntN(12) {
				if w == nil {
					break
				}
				if what, ok := act(r, w, p, x, y); !ok || !alike(t, what, x, y) {
					t.Fatalf("seed %d: %s isn't answered as the plain journal does", seed, what)
				}
			}
			x.On()
			y.On()
			if !alike(t, "at the end", x, y) || t.Failed() {
				t.Fatalf("seed %d", seed)
			}
			x.Arm(0, 0)
			y.Arm(0, 0)
		}
	}
}

func TestRecordsOfAnyBytes(t *testing.T) {
	r := source(9)
	for range 20000 {
		b := []byte(frames(strings.Repeat("s", r.IntN(5)), strings.Repeat("\x00", r.IntN(9)), "t"))
		for range r.IntN(3) {
			b[r.IntN(len(b))] = byte(r.IntN(5))
		}
		b = b[:len(b)-r.IntN(len(b))*r.IntN(2)]
		records, rest := plainRecords(string(b))
		wantRecords(t, string(b), len(b)-len(rest), records...)
	}
}

// P4.2: nothing is lost.

// life appends records until the power goes, with some Prunes between; it answers those that were answered, and the one under way, if there is one.
func life(w *Wal, from, to, prune int) (answered []string, under string) {
	for n := from; n < to; n++ {
		record := strconv.Itoa(n) + strings.Repeat("-", n%4)
		if _, e := w.Append([]byte(record)); e != api.OK {
			return answered, record
		}
		answered = append(answered, record)
		if n == prune {
			if _, e := w.Prune(n - 1); e != api.OK {
				return answered, ""
			}
		}
	}
	return answered, ""
}

// found answers whether an opening's records are the answered ones from first on, with at most the one under way behind them.
func found(records [][]byte, first int, answered []string, under string) (bool, bool) {
	got := texts(records)
	if first < 1 || first > len(answered)+1 {
		return false, false
	}
	want := answered[first-1:]
	if slices.Equal(got, want) {
		return true, false
	}
	return under != "" && slices.Equal(got, append(slices.Clone(want), under)), true
}

func TestNothingIsLostWhereverThePowerGoes(t *testing.T) {
	for per := 1; per <= 3; per++ {
		for n := 1; n <= 22; n++ {
			for keep := -1; keep <= 13; keep++ {
				d := disk.New(room)
				w := open(t, d, per)
				d.Arm(n, keep)
				answered, under := life(w, 1, 9, 6)
				if !d.Down() {
					d.Off(keep)
				}
				d.On()
				loseAndOpen(t, d, per, answered, under)
				_, records, first, e := Open(d, per)
				ok, whole := found(records, first, answered, under)
				if e != api.OK || !ok {
					t.Fatalf("per %d, raw write %d, kept %d: %q from %d on, %d; answered %q, under way %q", per, n, keep, texts(records), first, e, answered, under)
				}
				if under != "" && whole != (keep >= 8+len(under)) {
					t.Errorf("per %d, raw write %d, kept %d: under way %q, found: %v", per, n, keep, under, whole)
				}
			}
		}
	}
}

// loseAndOpen lets the power go in each raw write of an opening, of copies of this disk.
func loseAndOpen(t *testing.T, d *disk.Disk, per int, answered []string, under string) {
	t.Helper()
	files := look(d)
	for n := 1; ; n++ {
		c := with(t, files...)
		c.Arm(n, n)
		_, _, _, e := Open(c, per)
		if e == api.OK {
			return
		}
		c.On()
		_, records, first, e2 := Open(c, per)
		if ok, _ := found(records, first, answered, under); e != api.ErrDown || e2 != api.OK || !ok {
			t.Fatalf("the power went in an opening's raw write %d: %d, %d, %q; answered %q, under way %q", n, e, e2, texts(records), answered, under)
		}
	}
}

func TestNothingIsLostInManyLives(t *testing.T) {
	for seed := range uint64(600) {
		r := source(seed)
		d := disk.New(room)
		per := 1 + r.IntN(4)
		var answered []string
		under := ""
		for range 8 {
			d.On()
			d.Arm(r.IntN(6), r.IntN(14)-1) // it may go in the opening
			w, records, first, e := Open(d, per)
			if e == api.ErrDown {
				continue
			}
			ok, whole := found(records, first, answered, under)
			if e != api.OK || !ok {
				t.Fatalf("seed %d: %q from %d on, %d; answered %q, under way %q", seed, texts(records), first, e, answered, under)
			}
			if whole {
				answered = append(answered, under)
			}
			from := len(answered) + 1
			wantNext(t, w, from)
			d.Arm(1+r.IntN(12), r.IntN(14)-1)
			more, last := life(w, from, from+1+r.IntN(8), from+r.IntN(4))
			answered, under = append(answered, more...), last
			d.Off(r.IntN(14) - 1)
		}
	}
}

func TestARecordIsSafeAsSoonAsItIsAnswered(t *testing.T) {
	d := disk.New(room)
	for n := 1; n <= 12; n++ {
		w := open(t, d, 3)
		wantAppend(t, w, strconv.Itoa(n), n, api.OK)
		d.Off(0)
		d.On()
		_, records, first, _ := Open(d, 3)
		if len(records) != n || first != 1 || string(records[n-1]) != strconv.Itoa(n) {
			t.Errorf("behind record %d: %q, %d", n, texts(records), first)
		}
	}
}

// P4.3: opening again finds the same records.

func TestOpeningAgainFindsTheSame(t *testing.T) {
	for seed := range uint64(3000) {
		d, _ := anyDisk(source(seed))
		w, records, first, e := Open(d, 2)
		if e != api.OK {
			t.Fatalf("seed %d: %d", seed, e)
		}
		files := look(d)
		for per := 1; per <= 3; per++ {
			wantNext(t, wantOpen(t, d, per, first, texts(records)...), w.Next())
			wantFiles(t, d, files...)
		}
		segments := segmentsOf(files)
		if left := segmentsOf(lookSafe(d)); !slices.Equal(left, segments) {
			t.Errorf("seed %d: safe segments %q, want %q", seed, left, segments)
		}
		wantOpen(t, d, 2, first, texts(records)...)
		if t.Failed() {
			t.Fatalf("seed %d", seed)
		}
	}
}

// segmentsOf takes other files out of what look tells: these may be waiting still.
func segmentsOf(files []string) []string {
	var list []string
	for i := 0; i < len(files); i += 2 {
		if plainNumber(files[i]) != 0 {
			list = append(list, files[i], files[i+1])
		}
	}
	return list
}

func TestSegmentsHavePerRecordsEach(t *testing.T) {
	for seed := range uint64(300) {
		r := source(seed)
		d := disk.New(room)
		per := 1 + r.IntN(3)
		for range 5 {
			d.On()
			w, _, _, e := Open(d, per)
			if e != api.OK {
				t.Fatalf("seed %d: %d", seed, e)
			}
			d.Arm(r.IntN(16), r.IntN(14)-1)
			life(w, w.Next(), w.Next()+r.IntN(8), w.Next()+r.IntN(3))
			d.Off(r.IntN(14) - 1)
		}
		d.On()
		next := open(t, d, per).Next()
		var firsts []int
		for _, name := range d.Names() {
			firsts = append(firsts, plainNumber(name))
		}
		for i := range firsts {
			if last := i+1 == len(firsts); !last && firsts[i+1]-firsts[i] != per || last && next-firsts[i] > per {
				t.Errorf("seed %d: segments of %d records begin with %d, next comes %d", seed, per, firsts, next)
			}
		}
	}
}

// P4.4: a full disk.

func TestAFullDisk(t *testing.T) {
	for per := 1; per <= 3; per++ {
		for have := range 40 {
			d := with(t, "j000000001", frames("a"), "j000000002", frames("b"))
			w := open(t, d, per)
			d.Room(have)
			files := look(d)
			if have >= 18+12 {
				wantAppend(t, w, "cdef", 3, api.OK)
				continue
			}
			wantWrites(t, d, 0, func() { wantAppend(t, w, "cdef", 0, api.ErrFull) })
			wantFiles(t, d, files...)
			wantNext(t, w, 3)
			wantAppend(t, w, "cdef", 0, api.ErrFull)
			d.Room(18 + 12)
			wantAppend(t, w, "cdef", 3, api.OK)
			wantAppend(t, w, "", 0, api.ErrFull)
			wantPrune(t, w, 2, 1, api.OK)
			wantAppend(t, w, "", 4, api.OK)
			wantOpen(t, d, per, 2, "b", "cdef", "")
		}
	}
}

func TestAFullDiskTakesAShorterRecord(t *testing.T) {
	d := disk.New(9)
	w := open(t, d, 1)
	wantAppend(t, w, "ab", 0, api.ErrFull)
	wantFiles(t, d)
	wantAppend(t, w, "a", 1, api.OK)
	wantAppend(t, w, "", 0, api.ErrFull)
	wantFiles(t, d, "j000000001", frames("a"))
	wantOpen(t, d, 1, 1, "a")
}

func TestADiskWithTooManyFiles(t *testing.T) {
	d := disk.New(room)
	w := open(t, d, 1)
	for n := 1; n <= api.MaxFiles; n++ {
		wantAppend(t, w, "x", n, api.OK)
	}
	wantWrites(t, d, 0, func() { wantAppend(t, w, "x", 0, api.ErrFull) })
	wantNext(t, w, api.MaxFiles+1)
	wantPrune(t, w, 2, 1, api.OK)
	wantAppend(t, w, "x", api.MaxFiles+1, api.OK)
	wantAppend(t, w, "x", 0, api.ErrFull)
	wantPrune(t, w, math.MaxInt, api.MaxFiles-1, api.OK)
	wantOpen(t, d, 1, api.MaxFiles+1, "x")
}

func TestASegmentAsLongAsAFileCanBe(t *testing.T) {
	d := disk.New(room)
	w := open(t, d, 100)
	longest := strings.Repeat("m", api.MaxRecord)
	n := 0
	for size := 0; size+8+api.MaxRecord <= api.MaxFile; size += 8 + api.MaxRecord {
		n++
		wantAppend(t, w, longest, n, api.OK)
	}
	left := api.MaxFile - n*(8+api.MaxRecord) - 8
	wantWrites(t, d, 0, func() { wantAppend(t, w, longest, 0, api.ErrFull) })
	wantWrites(t, d, 0, func() { wantAppend(t, w, longest[:left+1], 0, api.ErrFull) })
	wantAppend(t, w, longest[:left], n+1, api.OK)
	wantAppend(t, w, "", 0, api.ErrFull)
	wantNext(t, w, n+2)
	if b, _ := d.Read("j000000001"); len(b) != api.MaxFile || len(d.Names()) != 1 {
		t.Errorf("%d bytes, files %q", len(b), d.Names())
	}
	w = open(t, d, n+1)
	wantAppend(t, w, "", n+2, api.OK) // a new segment
}

func TestAFullDiskCanBeOpened(t *testing.T) {
	d := with(t, "j000000001", frames("a")+"torn", "j000000003", frames("c"))
	d.Room(0)
	w := wantOpen(t, d, 1, 1, "a")
	wantAppend(t, w, "", 0, api.ErrFull)
	d.Room(room)
	wantAppend(t, w, "", 2, api.OK)
}

// P4.5: what is handed in, and what is answered.

// roomy answers a text's bytes within a longer list, and a function that tells whether that is as it was.
func roomy(text string) ([]byte, func() bool) {
	all := []byte("<<" + text + ">>>>>>>>")
	before := bytes.Clone(all)
	return all[2 : 2+len(text)], func() bool { return bytes.Equal(all, before) }
}

func scribble(b []byte) {
	b = b[:cap(b)]
	for i := range b {
		b[i] ^= 0xff
	}
}

func TestWhatIsHandedInIsNeitherChangedNorKept(t *testing.T) {
	r, same := roomy("record")
	if f, e := Frame(r); string(f) != frames("record") || e != api.OK || !same() {
		t.Error("Frame changes what it is handed")
	}
	b, same := roomy(frames("a", "bc") + "torn")
	if list, _ := Records(b); len(list) != 2 || !same() {
		t.Error("Records changes what it is handed")
	}
	d := disk.New(room)
	w := open(t, d, 1)
	r, same = roomy("record")
	if _, e := w.Append(r); e != api.OK || !same() {
		t.Error("Append changes what it is handed")
	}
	scribble(r)
	wantFiles(t, d, "j000000001", frames("record"))
	wantOpen(t, d, 1, 1, "record")
}

func TestWhatIsAnsweredIsNewMemory(t *testing.T) {
	record := []byte("record")
	f, _ := Frame(record)
	again, _ := Frame(record)
	scribble(f)
	if string(record) != "record" || string(again) != frames("record") {
		t.Error("a frame shares memory")
	}
	b := []byte(frames("ab", "", "cde", "f") + "torn")
	before := bytes.Clone(b)
	first, _ := Records(b)
	second, _ := Records(b)
	apart(t, first, second, "ab", "", "cde", "f")
	if !bytes.Equal(b, before) {
		t.Error("records share memory with the segment's bytes")
	}
}

// apart scribbles over one list's records, one by one, and looks at the others and at the other list's.
func apart(t *testing.T, first, second [][]byte, records ...string) {
	t.Helper()
	for i := range first {
		scribble(first[i])
		if !slices.Equal(texts(first)[i+1:], records[i+1:]) || !slices.Equal(texts(second), records) {
			t.Errorf("record %d shares memory", i)
		}
	}
	clear(first)
	_ = append(first[:0], nil, nil)
	if !slices.Equal(texts(second), records) {
		t.Error("two answers share memory")
	}
}

func TestWhatOpenAnswersIsNewMemory(t *testing.T) {
	d := with(t, "j000000001", frames("ab", "cde"), "j000000003", frames("f", "gh"))
	files := look(d)
	w, first, _, _ := Open(d, 2)
	_, second, _, _ := Open(d, 2)
	apart(t, first, second, "ab", "cde", "f", "gh")
	wantFiles(t, d, files...)
	_, third, _, _ := Open(d, 2)
	if !slices.Equal(texts(third), []string{"ab", "cde", "f", "gh"}) {
		t.Errorf("records: %q", texts(third))
	}
	wantNext(t, w, 5)
}

func TestTwoJournalsHaveNothingInCommon(t *testing.T) {
	x, y := disk.New(room), disk.New(room)
	v, w := open(t, x, 1), open(t, y, 2)
	for n := 1; n <= 4; n++ {
		wantAppend(t, v, "v", n, api.OK)
		wantAppend(t, w, "w", n, api.OK)
	}
	x.Off(0)
	wantAppend(t, v, "v", 0, api.ErrDown)
	wantPrune(t, w, 3, 1, api.OK)
	wantAppend(t, w, "w", 5, api.OK)
	x.On()
	wantOpen(t, x, 1, 1, "v", "v", "v", "v")
	wantOpen(t, y, 2, 3, "w", "w", "w")
}
