package disk

import (
	"bytes"
	"math"
	"math/rand/v2"
	"slices"
	"strings"
	"testing"

	"quern/api"
)

// A plain disk is the chapter word by word, in another shape: a list of files, each with two texts.

type plainFile struct{ name, safe, waiting string }

type plainDisk struct {
	files  []plainFile
	room   int
	off    bool
	writes int
	fatal  int // the number of the raw write in which the power will go; -1: none
	keep   int
}

func newPlain(room int) *plainDisk { return &plainDisk{room: room, fatal: -1} }

func (p *plainDisk) place(name string) int {
	return slices.IndexFunc(p.files, func(f plainFile) bool { return f.name == name })
}

func (p *plainDisk) bytes() int {
	n := 0
	for _, f := range p.files {
		n += len(f.safe + f.waiting)
	}
	return n
}

func (p *plainDisk) powerGoes(keep int) {
	if p.off {
		return
	}
	for i, f := range p.files {
		kept := ""
		for j := 0; j < keep && j < len(f.waiting); j++ {
			kept += f.waiting[j : j+1]
		}
		p.files[i] = plainFile{f.name, f.safe + kept, ""}
	}
	p.off, p.fatal = true, -1
}

func (p *plainDisk) refused(names ...string) api.Errno {
	for _, n := range names {
		if len(n) == 0 || len(n) > 16 {
			return api.ErrArg
		}
	}
	if p.off {
		return api.ErrDown
	}
	return api.OK
}

func (p *plainDisk) armed() bool {
	p.writes++
	return p.writes == p.fatal
}

func (p *plainDisk) add(name, b string) api.Errno {
	if e := p.refused(name); e != api.OK {
		return e
	}
	at := p.place(name)
	if at < 0 && len(b) > 1<<20 || at >= 0 && len(p.files[at].safe+p.files[at].waiting+b) > 1<<20 {
		return api.ErrLong
	}
	if at < 0 && len(p.files) == 16 || p.bytes()+len(b) > p.room {
		return api.ErrFull
	}
	if at < 0 {
		at = len(p.files)
		p.files = append(p.files, plainFile{name: name})
	}
	p.files[at].waiting += b
	if p.armed() {
		p.powerGoes(p.keep)
		return api.ErrDown
	}
	return api.OK
}

// change is a raw write that needs a file: do changes it, may refuses it.
func (p *plainDisk) change(names []string, may func(f plainFile) api.Errno, do func(at int)) api.Errno {
	if e := p.refused(names...); e != api.OK {
		return e
	}
	at := p.place(names[0])
	if at < 0 {
		return api.ErrFile
	}
	if e := may(p.files[at]); e != api.OK {
		return e
	}
	if p.armed() {
		p.powerGoes(p.keep)
		return api.ErrDown
	}
	do(at)
	return api.OK
}

func anyFile(plainFile) api.Errno { return api.OK }

func (p *plainDisk) sync(name string) api.Errno {
	return p.change([]string{name}, anyFile, func(at int) {
		f := p.files[at]
		p.files[at] = plainFile{f.name, f.safe + f.waiting, ""}
	})
}

func (p *plainDisk) truncate(name string, n int) api.Errno {
	may := func(f plainFile) api.Errno {
		if n < 0 || n > len(f.safe+f.waiting) {
			return api.ErrLong
		}
		return api.OK
	}
	return p.change([]string{name}, may, func(at int) {
		f := p.files[at]
		if n < len(f.safe) {
			p.files[at] = plainFile{f.name, f.safe[:n], ""}
		} else {
			p.files[at] = plainFile{f.name, f.safe, f.waiting[:n-len(f.safe)]}
		}
	})
}

func (p *plainDisk) rename(from, to string) api.Errno {
	return p.change([]string{from, to}, anyFile, func(at int) {
		f := p.files[at]
		p.files = slices.DeleteFunc(p.files, func(g plainFile) bool { return g.name == from || g.name == to })
		p.files = append(p.files, plainFile{to, f.safe, f.waiting})
	})
}

func (p *plainDisk) remove(name string) api.Errno {
	return p.change([]string{name}, anyFile, func(at int) { p.files = slices.Delete(p.files, at, at+1) })
}

func (p *plainDisk) read(name string) (string, api.Errno) {
	if e := p.refused(name); e != api.OK {
		return "", e
	}
	at := p.place(name)
	if at < 0 {
		return "", api.ErrFile
	}
	return p.files[at].safe + p.files[at].waiting, api.OK
}

func (p *plainDisk) names() []string {
	var out []string
	if !p.off {
		for _, f := range p.files {
			out = append(out, f.name)
		}
	}
	slices.Sort(out)
	return out
}

func (p *plainDisk) arm(n, keep int) {
	p.fatal, p.keep = -1, keep
	if n >= 1 {
		p.fatal = p.writes + n
	}
}

// Helpers

func source(seed uint64) *rand.Rand { return rand.New(rand.NewPCG(3, seed)) }

func want(t *testing.T, what string, got, want api.Errno) {
	t.Helper()
	if got != want {
		t.Errorf("%s: error %d, want %d", what, got, want)
	}
}

func wantFile(t *testing.T, d *Disk, name, text string) {
	t.Helper()
	if b, e := d.Read(name); e != api.OK || string(b) != text {
		t.Errorf("Read(%q): %q, %d, want %q", name, b, e, text)
	}
}

func wantNames(t *testing.T, d *Disk, names ...string) {
	t.Helper()
	if got := d.Names(); !slices.Equal(got, names) {
		t.Errorf("Names: %q, want %q", got, names)
	}
}

func wantWrites(t *testing.T, d *Disk, n int) {
	t.Helper()
	if got := d.Writes(); got != n {
		t.Errorf("Writes: %d, want %d", got, n)
	}
}

// with answers a disk with these files, name and text in turn, all their bytes safe.
func with(t *testing.T, room int, files ...string) *Disk {
	t.Helper()
	d := New(room)
	for i := 0; i < len(files); i += 2 {
		want(t, "Append", d.Append(files[i], []byte(files[i+1])), api.OK)
		want(t, "Sync", d.Sync(files[i]), api.OK)
	}
	return d
}

func put(t *testing.T, d *Disk, name, text string) {
	t.Helper()
	want(t, "Append of "+name, d.Append(name, []byte(text)), api.OK)
}

func manyNames(n int) []string {
	out := make([]string, n)
	for i := range out {
		out[i] = string(rune('a' + i))
	}
	return out
}

// seen is all that can be seen of a disk whose power is on.
type seen struct {
	names  []string
	texts  []string
	writes int
	down   bool
}

func look(d *Disk) seen {
	s := seen{names: d.Names(), writes: d.Writes(), down: d.Down()}
	for _, n := range s.names {
		b, _ := d.Read(n)
		s.texts = append(s.texts, string(b))
	}
	return s
}

func alike(a, b seen) bool {
	return slices.Equal(a.names, b.names) && slices.Equal(a.texts, b.texts) && a.writes == b.writes && a.down == b.down
}

// P3.1

func TestTheChaptersExamples(t *testing.T) {
	d := New(100)
	put(t, d, "a", "xy")
	want(t, "Sync", d.Sync("a"), api.OK)
	put(t, d, "a", "z")
	want(t, "Rename", d.Rename("a", "b"), api.OK)
	d.Off(0)
	d.On()
	wantFile(t, d, "b", "xy")
	_, e := d.Read("a")
	want(t, "Read(a)", e, api.ErrFile)

	d = New(3)
	want(t, "Append of 4 bytes", d.Append("a", []byte("wxyz")), api.ErrFull)
	wantNames(t, d)
	put(t, d, "a", "wx")
	want(t, "Append of 2 more", d.Append("b", []byte("yz")), api.ErrFull)
	wantNames(t, d, "a")
}

func TestANewDisk(t *testing.T) {
	d := New(10)
	if d.Down() || d.Writes() != 0 || len(d.Names()) != 0 {
		t.Errorf("New: %v, %d, %q", d.Down(), d.Writes(), d.Names())
	}
	_, e := d.Read("a")
	want(t, "Read", e, api.ErrFile)
}

func TestNamesThatCanBe(t *testing.T) {
	sixteen, seventeen := strings.Repeat("n", 16), strings.Repeat("n", 17)
	for _, name := range []string{"a", "\x00", "\xff\xfe", " ", "a/b", "é", sixteen, strings.Repeat("\x00", 16)} {
		d := New(10)
		put(t, d, name, "x")
		want(t, "Sync", d.Sync(name), api.OK)
		want(t, "Truncate", d.Truncate(name, 1), api.OK)
		wantFile(t, d, name, "x")
		wantNames(t, d, name)
		want(t, "Rename to", d.Rename(name, "other"), api.OK)
		want(t, "Rename back", d.Rename("other", name), api.OK)
		want(t, "Remove", d.Remove(name), api.OK)
		wantNames(t, d)
	}
	for _, name := range []string{"", seventeen, strings.Repeat("é", 9), strings.Repeat("n", 1000)} {
		d := with(t, 10, "a", "x")
		before := look(d)
		for _, power := range []bool{true, false} {
			_, e := d.Read(name)
			want(t, "Read", e, api.ErrArg)
			want(t, "Append", d.Append(name, []byte("x")), api.ErrArg)
			want(t, "Sync", d.Sync(name), api.ErrArg)
			want(t, "Truncate", d.Truncate(name, 0), api.ErrArg)
			want(t, "Rename from", d.Rename(name, "a"), api.ErrArg)
			want(t, "Rename to", d.Rename("a", name), api.ErrArg)
			want(t, "Rename of no file to", d.Rename("none", name), api.ErrArg)
			want(t, "Rename of both", d.Rename(name, name), api.ErrArg)
			want(t, "Remove", d.Remove(name), api.ErrArg)
			if power {
				d.Off(0)
			}
		}
		d.On()
		if !alike(look(d), before) {
			t.Errorf("the name %q has changed the disk", name)
		}
	}
}

func TestNamesThatDifferAreFilesThatDiffer(t *testing.T) {
	names := []string{"\x00", "\x00\x00", "A", "a", "a ", "aa", "b", "\xff"}
	d := New(100)
	for _, i := range []int{4, 2, 0, 7, 3, 6, 1, 5} {
		put(t, d, names[i], "of "+names[i])
	}
	wantNames(t, d, names...)
	for _, n := range names {
		wantFile(t, d, n, "of "+n)
	}
}

func TestAppendPutsBytesBehind(t *testing.T) {
	d := New(100)
	put(t, d, "a", "")
	wantNames(t, d, "a")
	wantFile(t, d, "a", "")
	put(t, d, "a", "xy")
	put(t, d, "b", "pq")
	put(t, d, "a", "")
	put(t, d, "a", "z")
	wantFile(t, d, "a", "xyz")
	wantFile(t, d, "b", "pq")
	wantWrites(t, d, 5)
	want(t, "Append of nil", d.Append("c", nil), api.OK)
	wantNames(t, d, "a", "b", "c")
	wantWrites(t, d, 6)
}

func TestAFileOfMaxFileBytes(t *testing.T) {
	full := bytes.Repeat([]byte{7}, api.MaxFile)
	d := New(4 * api.MaxFile)
	want(t, "one more at once", d.Append("a", append(full, 7)), api.ErrLong)
	wantNames(t, d)
	want(t, "all at once", d.Append("a", full), api.OK)
	want(t, "one more", d.Append("a", []byte{7}), api.ErrLong)
	want(t, "nothing more", d.Append("a", nil), api.OK)
	want(t, "another file", d.Append("b", full[1:]), api.OK)
	want(t, "its last byte", d.Append("b", []byte{8}), api.OK)
	want(t, "one more of it", d.Append("b", []byte{8}), api.ErrLong)
	if b, _ := d.Read("a"); !bytes.Equal(b, full) {
		t.Errorf("Read: %d bytes", len(b))
	}
	want(t, "Truncate", d.Truncate("a", api.MaxFile-1), api.OK)
	want(t, "two", d.Append("a", []byte{7, 7}), api.ErrLong)
	want(t, "one", d.Append("a", []byte{7}), api.OK)
	wantWrites(t, d, 6)
}

func TestMaxFilesFiles(t *testing.T) {
	names := manyNames(api.MaxFiles + 1)
	d := New(1000)
	for _, n := range names[:api.MaxFiles] {
		put(t, d, n, n)
	}
	last := names[api.MaxFiles]
	want(t, "one file more", d.Append(last, []byte("x")), api.ErrFull)
	want(t, "one file more, empty", d.Append(last, nil), api.ErrFull)
	want(t, "one file more, too long", d.Append(last, make([]byte, api.MaxFile+1)), api.ErrLong)
	wantNames(t, d, names[:api.MaxFiles]...)
	put(t, d, names[0], "y")
	wantFile(t, d, names[0], "ay")
	wantWrites(t, d, api.MaxFiles+1)
	want(t, "Rename to a new name", d.Rename(names[0], last), api.OK)
	want(t, "Append to the old name", d.Append(names[0], nil), api.ErrFull)
	want(t, "Rename onto another", d.Rename(last, names[1]), api.OK)
	put(t, d, names[0], "there is room again")
	want(t, "Remove", d.Remove(names[3]), api.OK)
	put(t, d, names[3], "")
	want(t, "one file more again", d.Append(last, nil), api.ErrFull)
}

func TestRoomJustEnoughAndTooLittle(t *testing.T) {
	d := New(5)
	put(t, d, "a", "xy")
	want(t, "Sync", d.Sync("a"), api.OK)
	want(t, "a byte too many", d.Append("b", []byte("1234")), api.ErrFull)
	put(t, d, "b", "123")
	want(t, "one more", d.Append("a", []byte("z")), api.ErrFull)
	put(t, d, "a", "")
	put(t, d, "c", "")
	d.Room(6)
	want(t, "two more", d.Append("a", []byte("zz")), api.ErrFull)
	put(t, d, "a", "z")
	wantFile(t, d, "a", "xyz")
	wantFile(t, d, "b", "123")
	want(t, "Truncate", d.Truncate("b", 1), api.OK)
	want(t, "three more", d.Append("c", []byte("pqr")), api.ErrFull)
	put(t, d, "c", "pq")
	want(t, "Remove", d.Remove("a"), api.OK)
	want(t, "four more", d.Append("b", []byte("4567")), api.ErrFull)
	put(t, d, "b", "456")
	want(t, "Rename", d.Rename("b", "c"), api.OK)
	want(t, "three more", d.Append("b", []byte("xyz")), api.ErrFull)
	put(t, d, "b", "xy")
	d.Off(0)
	d.On()
	put(t, d, "d", "123456")
}

func TestRoomForLessThanThereIs(t *testing.T) {
	d := with(t, 10, "a", "12345", "b", "")
	put(t, d, "a", "67")
	for _, room := range []int{6, 0, -1, math.MinInt} {
		d.Room(room)
		want(t, "a byte", d.Append("a", []byte("8")), api.ErrFull)
		want(t, "nothing more", d.Append("b", nil), api.ErrFull)
		want(t, "an empty file", d.Append("c", nil), api.ErrFull)
		wantFile(t, d, "a", "1234567")
		want(t, "Sync", d.Sync("a"), api.OK)
		want(t, "Truncate to all", d.Truncate("a", 7), api.OK)
		want(t, "Rename", d.Rename("b", "b"), api.OK)
	}
	wantNames(t, d, "a", "b")
	d.Room(7)
	want(t, "a byte", d.Append("a", []byte("8")), api.ErrFull)
	want(t, "nothing more", d.Append("a", nil), api.OK)
	d.Room(math.MaxInt)
	put(t, d, "a", "8")
	d.Off(0)
	d.Room(6)
	d.On()
	want(t, "room made less without power", d.Append("a", nil), api.ErrFull)
}

func TestNewWithoutRoom(t *testing.T) {
	d := New(0)
	put(t, d, "a", "")
	want(t, "a byte", d.Append("a", []byte{0}), api.ErrFull)
	for _, room := range []int{-1, math.MinInt} {
		d = New(room)
		want(t, "an empty file", d.Append("a", nil), api.ErrFull)
		wantNames(t, d)
		d.Room(1)
		put(t, d, "a", "x")
	}
	put(t, New(math.MaxInt), "a", "x")
}

func TestTruncate(t *testing.T) {
	for _, c := range []struct {
		n     int
		e     api.Errno
		text  string // what the file has then
		after string // what it has when the power has gone, without a waiting byte kept
	}{
		{math.MinInt, api.ErrLong, "abcde", "abc"},
		{-1, api.ErrLong, "abcde", "abc"},
		{0, api.OK, "", ""},
		{1, api.OK, "a", "a"},
		{3, api.OK, "abc", "abc"},
		{4, api.OK, "abcd", "abc"},
		{5, api.OK, "abcde", "abc"},
		{6, api.ErrLong, "abcde", "abc"},
		{math.MaxInt, api.ErrLong, "abcde", "abc"},
	} {
		d := with(t, 100, "a", "abc", "b", "untouched")
		put(t, d, "a", "de")
		want(t, "Truncate", d.Truncate("a", c.n), c.e)
		wantFile(t, d, "a", c.text)
		wantFile(t, d, "b", "untouched")
		counted := 6
		if c.e != api.OK {
			counted = 5
		}
		wantWrites(t, d, counted)
		d.Off(0)
		d.On()
		wantFile(t, d, "a", c.after)
	}
	d := with(t, 10, "a", "")
	want(t, "of an empty file, 1", d.Truncate("a", 1), api.ErrLong)
	want(t, "of an empty file, 0", d.Truncate("a", 0), api.OK)
	want(t, "of no file", d.Truncate("none", 0), api.ErrFile)
	want(t, "of no file, below 0", d.Truncate("none", -1), api.ErrFile)
}

func TestWhatIsPutBehindATruncationWaits(t *testing.T) {
	d := with(t, 100, "a", "abcdef")
	want(t, "Truncate", d.Truncate("a", 2), api.OK)
	put(t, d, "a", "xyz")
	wantFile(t, d, "a", "abxyz")
	d.Off(1)
	d.On()
	wantFile(t, d, "a", "abx")
}

func TestRename(t *testing.T) {
	d := with(t, 100, "a", "abc", "b", "other", "c", "third")
	put(t, d, "a", "de")
	put(t, d, "b", "waiting")
	want(t, "onto itself", d.Rename("a", "a"), api.OK)
	wantNames(t, d, "a", "b", "c")
	wantFile(t, d, "a", "abcde")
	want(t, "onto another", d.Rename("a", "b"), api.OK)
	wantNames(t, d, "b", "c")
	wantFile(t, d, "b", "abcde")
	wantFile(t, d, "c", "third")
	want(t, "of no file", d.Rename("a", "c"), api.ErrFile)
	want(t, "of no file onto itself", d.Rename("a", "a"), api.ErrFile)
	wantFile(t, d, "c", "third")
	want(t, "to a new name", d.Rename("b", "d"), api.OK)
	wantNames(t, d, "c", "d")
	wantWrites(t, d, 11)
	d.Off(1)
	d.On()
	wantFile(t, d, "d", "abcd")
	wantNames(t, d, "c", "d")
}

func TestARenamedFileGoesOnAlone(t *testing.T) {
	d := with(t, 100, "a", "abc")
	want(t, "Rename", d.Rename("a", "b"), api.OK)
	put(t, d, "a", "new")
	put(t, d, "b", "de")
	wantFile(t, d, "a", "new")
	wantFile(t, d, "b", "abcde")
	want(t, "Remove", d.Remove("b"), api.OK)
	wantFile(t, d, "a", "new")
}

func TestRemove(t *testing.T) {
	d := with(t, 100, "a", "abc", "b", "x")
	put(t, d, "a", "de")
	want(t, "Remove", d.Remove("a"), api.OK)
	want(t, "Remove again", d.Remove("a"), api.ErrFile)
	wantNames(t, d, "b")
	wantWrites(t, d, 6)
	d.Off(5)
	d.On()
	wantNames(t, d, "b")
	put(t, d, "a", "")
	wantFile(t, d, "a", "")
}

func TestOfNoFile(t *testing.T) {
	d := with(t, 100, "a", "abc")
	want(t, "Sync", d.Sync("b"), api.ErrFile)
	want(t, "Truncate", d.Truncate("b", 0), api.ErrFile)
	want(t, "Rename", d.Rename("b", "a"), api.ErrFile)
	want(t, "Remove", d.Remove("b"), api.ErrFile)
	b, e := d.Read("b")
	want(t, "Read", e, api.ErrFile)
	if len(b) != 0 {
		t.Errorf("Read: %q beside an error", b)
	}
	wantNames(t, d, "a")
	wantWrites(t, d, 2)
}

func TestWithoutPower(t *testing.T) {
	d := with(t, 100, "a", "abc")
	d.Room(3)
	d.Off(0)
	if !d.Down() {
		t.Error("Down: false behind Off")
	}
	want(t, "Append", d.Append("a", []byte("x")), api.ErrDown)
	want(t, "Append, too long", d.Append("b", make([]byte, api.MaxFile+1)), api.ErrDown)
	want(t, "Sync", d.Sync("a"), api.ErrDown)
	want(t, "Truncate", d.Truncate("a", 0), api.ErrDown)
	want(t, "Truncate, below 0", d.Truncate("a", -1), api.ErrDown)
	want(t, "Rename", d.Rename("a", "b"), api.ErrDown)
	want(t, "Remove", d.Remove("a"), api.ErrDown)
	want(t, "Sync of no file", d.Sync("b"), api.ErrDown)
	want(t, "Truncate of no file", d.Truncate("b", 0), api.ErrDown)
	want(t, "Rename of no file", d.Rename("b", "a"), api.ErrDown)
	want(t, "Remove of no file", d.Remove("b"), api.ErrDown)
	for _, n := range []string{"a", "b"} {
		b, e := d.Read(n)
		want(t, "Read", e, api.ErrDown)
		if len(b) != 0 {
			t.Errorf("Read: %q beside an error", b)
		}
	}
	wantNames(t, d)
	wantWrites(t, d, 2)
	d.On()
	if d.Down() {
		t.Error("Down: true behind On")
	}
	wantFile(t, d, "a", "abc")
	wantNames(t, d, "a")
	wantWrites(t, d, 2)
}

func TestReadAndNamesAreNoRawWrites(t *testing.T) {
	d := with(t, 100, "a", "abc")
	d.Arm(1, 0)
	for range 3 {
		wantFile(t, d, "a", "abc")
		wantNames(t, d, "a")
		d.Room(50)
		d.On()
		if d.Down() {
			t.Fatal("the power went in what is no raw write")
		}
	}
	wantWrites(t, d, 2)
	want(t, "the armed one", d.Sync("a"), api.ErrDown)
	wantWrites(t, d, 3)
}

func TestErrorsInTheirOrder(t *testing.T) {
	long := make([]byte, api.MaxFile+1)
	d := New(0)
	want(t, "too long and too much", d.Append("a", long), api.ErrLong)
	want(t, "no name and too long", d.Append("", long), api.ErrArg)
	d.Room(api.MaxFile)
	put(t, d, "a", "x")
	want(t, "longer and too much", d.Append("a", long[1:]), api.ErrLong)
	d.Arm(1, 0)
	want(t, "armed and too long", d.Append("a", long), api.ErrLong)
	want(t, "armed and too much", d.Append("b", long[1:]), api.ErrFull)
	want(t, "armed and no file", d.Sync("b"), api.ErrFile)
	want(t, "armed and no file", d.Truncate("b", -1), api.ErrFile)
	want(t, "armed and below 0", d.Truncate("a", -1), api.ErrLong)
	want(t, "armed and no file", d.Rename("b", "a"), api.ErrFile)
	want(t, "armed and no name", d.Rename("a", ""), api.ErrArg)
	want(t, "armed and no file", d.Remove("b"), api.ErrFile)
	if d.Down() || d.Writes() != 1 {
		t.Errorf("refused calls were counted: %v, %d", d.Down(), d.Writes())
	}
	want(t, "armed", d.Append("a", nil), api.ErrDown)
	want(t, "off and no name", d.Rename("b", ""), api.ErrArg)
	want(t, "off and no name", d.Rename("", "b"), api.ErrArg)
	want(t, "off and no file", d.Rename("b", "c"), api.ErrDown)
	wantWrites(t, d, 2)
}

func TestOfANilDisk(t *testing.T) {
	var d *Disk
	d.Room(5)
	d.Arm(1, 1)
	d.Off(1)
	d.On()
	for _, name := range []string{"a", "", strings.Repeat("n", 17)} {
		want(t, "Append", d.Append(name, []byte("x")), api.ErrNil)
		want(t, "Sync", d.Sync(name), api.ErrNil)
		want(t, "Truncate", d.Truncate(name, -1), api.ErrNil)
		want(t, "Rename", d.Rename(name, "a"), api.ErrNil)
		want(t, "Rename", d.Rename("a", name), api.ErrNil)
		want(t, "Remove", d.Remove(name), api.ErrNil)
		b, e := d.Read(name)
		want(t, "Read", e, api.ErrNil)
		if len(b) != 0 {
			t.Errorf("Read: %q", b)
		}
	}
	if d.Down() || d.Writes() != 0 || len(d.Names()) != 0 {
		t.Errorf("of nil: %v, %d, %q", d.Down(), d.Writes(), d.Names())
	}
}

func TestTheArmedRawWrite(t *testing.T) {
	for _, n := range []int{1, 2, 3, 7} {
		d := with(t, 100, "a", "abc")
		d.Arm(n, 0)
		for i := 1; i < n; i++ {
			want(t, "ahead of the armed one", d.Sync("a"), api.OK)
		}
		want(t, "the armed one", d.Sync("a"), api.ErrDown)
		if !d.Down() || d.Writes() != 2+n {
			t.Errorf("armed %d: %v, %d", n, d.Down(), d.Writes())
		}
		d.On()
		for range 10 {
			want(t, "behind it", d.Sync("a"), api.OK)
		}
	}
	for _, n := range []int{0, -1, math.MinInt, math.MaxInt} {
		d := with(t, 100, "a", "abc")
		d.Arm(n, 5)
		for range 50 {
			want(t, "armed for none or much later", d.Sync("a"), api.OK)
		}
	}
}

func TestWhatIsDoneInTheArmedRawWrite(t *testing.T) {
	for _, c := range []struct {
		what  string
		keep  int
		do    func(d *Disk) api.Errno
		texts []string // of a, b, and c
	}{
		{"Append", 0, func(d *Disk) api.Errno { return d.Append("a", []byte("xyz")) }, []string{"abc", "kl"}},
		{"Append", 1, func(d *Disk) api.Errno { return d.Append("a", []byte("xyz")) }, []string{"abcd", "klm"}},
		{"Append", 3, func(d *Disk) api.Errno { return d.Append("a", []byte("xyz")) }, []string{"abcdex", "klm"}},
		{"Append", 9, func(d *Disk) api.Errno { return d.Append("a", []byte("xyz")) }, []string{"abcdexyz", "klm"}},
		{"Append", -1, func(d *Disk) api.Errno { return d.Append("a", []byte("xyz")) }, []string{"abc", "kl"}},
		{"Append of nothing", 1, func(d *Disk) api.Errno { return d.Append("a", nil) }, []string{"abcd", "klm"}},
		{"Append to none", 0, func(d *Disk) api.Errno { return d.Append("c", []byte("xyz")) }, []string{"abc", "kl", ""}},
		{"Append to none", 2, func(d *Disk) api.Errno { return d.Append("c", []byte("xyz")) }, []string{"abcde", "klm", "xy"}},
		{"Append of nothing to none", 2, func(d *Disk) api.Errno { return d.Append("c", nil) }, []string{"abcde", "klm", ""}},
		{"Sync", 0, func(d *Disk) api.Errno { return d.Sync("a") }, []string{"abc", "kl"}},
		{"Sync", 1, func(d *Disk) api.Errno { return d.Sync("a") }, []string{"abcd", "klm"}},
		{"Truncate", 0, func(d *Disk) api.Errno { return d.Truncate("a", 1) }, []string{"abc", "kl"}},
		{"Truncate", 1, func(d *Disk) api.Errno { return d.Truncate("a", 0) }, []string{"abcd", "klm"}},
		{"Rename", 0, func(d *Disk) api.Errno { return d.Rename("a", "b") }, []string{"abc", "kl"}},
		{"Rename", 1, func(d *Disk) api.Errno { return d.Rename("a", "d") }, []string{"abcd", "klm"}},
		{"Remove", 0, func(d *Disk) api.Errno { return d.Remove("a") }, []string{"abc", "kl"}},
		{"Remove", math.MaxInt, func(d *Disk) api.Errno { return d.Remove("b") }, []string{"abcde", "klm"}},
		{"Remove", math.MinInt, func(d *Disk) api.Errno { return d.Remove("b") }, []string{"abc", "kl"}},
	} {
		d := with(t, 100, "a", "abc", "b", "kl")
		put(t, d, "a", "de")
		put(t, d, "b", "m")
		d.Arm(1, c.keep)
		want(t, c.what, c.do(d), api.ErrDown)
		wantWrites(t, d, 7)
		wantNames(t, d)
		d.On()
		wantNames(t, d, manyNames(len(c.texts))...)
		for i, text := range c.texts {
			wantFile(t, d, manyNames(3)[i], text)
		}
		d.Off(0)
		d.On()
		for i, text := range c.texts {
			wantFile(t, d, manyNames(3)[i], text)
		}
		want(t, "behind it", d.Append("a", []byte("1")), api.OK)
	}
}

func TestArmTakesThePlaceOfWhatWasArmed(t *testing.T) {
	d := with(t, 100, "a", "abc")
	put(t, d, "a", "de")
	d.Arm(1, 2)
	d.Arm(2, 1)
	put(t, d, "a", "f")
	want(t, "the second", d.Append("a", []byte("g")), api.ErrDown)
	d.On()
	wantFile(t, d, "a", "abcd")
	for _, n := range []int{0, -1} {
		d.Arm(1, 0)
		d.Arm(n, 0)
		want(t, "armed no more", d.Sync("a"), api.OK)
		want(t, "armed no more", d.Sync("a"), api.OK)
	}
	d.Arm(5, 0)
	put(t, d, "a", "x")
	d.Arm(1, 0)
	want(t, "sooner", d.Sync("a"), api.ErrDown)
}

func TestArmedWhileThePowerIsOff(t *testing.T) {
	d := with(t, 100, "a", "abc")
	d.Off(0)
	d.Arm(2, 1)
	want(t, "off", d.Sync("a"), api.ErrDown)
	want(t, "off", d.Sync("a"), api.ErrDown)
	d.Off(0) // it is off: nothing happens, what is armed stays so
	d.On()
	put(t, d, "a", "xy")
	want(t, "the second", d.Sync("a"), api.ErrDown)
	wantWrites(t, d, 4)
	d.Arm(1, 0)
	d.Arm(0, 0)
	d.On()
	wantFile(t, d, "a", "abcx")
	want(t, "armed no more", d.Sync("a"), api.OK)
}

func TestOffDisarms(t *testing.T) {
	d := with(t, 100, "a", "abc")
	d.Arm(1, 2)
	d.Off(0)
	d.On()
	put(t, d, "a", "d")
	want(t, "Sync", d.Sync("a"), api.OK)
	wantFile(t, d, "a", "abcd")
}

func TestOff(t *testing.T) {
	for _, c := range []struct {
		keep int
		a, b string
	}{
		{math.MinInt, "abc", ""}, {-1, "abc", ""}, {0, "abc", ""}, {1, "abcd", "1"}, {2, "abcde", "12"},
		{3, "abcde", "123"}, {4, "abcde", "123"}, {math.MaxInt, "abcde", "123"},
	} {
		d := with(t, 100, "a", "abc", "e", "")
		put(t, d, "a", "de")
		put(t, d, "b", "123")
		d.Off(c.keep)
		d.Off(9) // it is off already: nothing happens
		d.Off(-9)
		wantWrites(t, d, 6)
		d.On()
		d.On()
		wantFile(t, d, "a", c.a)
		wantFile(t, d, "b", c.b)
		wantNames(t, d, "a", "b", "e")
		d.Off(0)
		d.On()
		wantFile(t, d, "a", c.a)
		wantFile(t, d, "b", c.b)
		put(t, d, "b", "+")
		wantFile(t, d, "b", c.b+"+")
	}
}

// step does one and the same call on both disks, and tells whether they answer alike.
func step(r *rand.Rand, d *Disk, p *plainDisk) (string, bool) {
	names := []string{"a", "b", "c", "d", "", strings.Repeat("n", 16), strings.Repeat("n", 17)}
	if r.IntN(3) == 0 {
		names = manyNames(20)
	}
	name, other := names[r.IntN(len(names))], names[r.IntN(len(names))]
	text := strings.Repeat(string(rune('A'+r.IntN(26))), r.IntN(6))
	n := r.IntN(12) - 1
	switch r.IntN(24) {
	case 0, 1, 2, 3, 4, 5, 6, 7:
		return "Append", d.Append(name, []byte(text)) == p.add(name, text)
	case 8, 9, 10:
		return "Sync", d.Sync(name) == p.sync(name)
	case 11, 12:
		return "Truncate", d.Truncate(name, n) == p.truncate(name, n)
	case 13, 14:
		return "Rename", d.Rename(name, other) == p.rename(name, other)
	case 15:
		return "Remove", d.Remove(name) == p.remove(name)
	case 16:
		d.Off(n)
		p.powerGoes(n)
		return "Off", true
	case 17, 18, 19:
		d.On()
		p.off = false
		return "On", true
	case 20:
		keep := r.IntN(9) - 2
		d.Arm(n, keep)
		p.arm(n, keep)
		return "Arm", true
	case 21:
		room := r.IntN(120) - 1
		d.Room(room)
		p.room = room
		return "Room", true
	}
	b, e := d.Read(name)
	text, f := p.read(name)
	return "Read", e == f && string(b) == text
}

func TestAllCallsInEveryOrder(t *testing.T) {
	for seed := range uint64(300) {
		r := source(seed)
		d, p := New(60), newPlain(60)
		for i := range 300 {
			what, same := step(r, d, p)
			if !same {
				t.Fatalf("seed %d, step %d: %s answers another thing", seed, i, what)
			}
			if d.Down() != p.off || d.Writes() != p.writes || !slices.Equal(d.Names(), p.names()) {
				t.Fatalf("seed %d, step %d, behind %s: %v, %d, %q, want %v, %d, %q", seed, i, what, d.Down(), d.Writes(), d.Names(), p.off, p.writes, p.names())
			}
			for _, n := range d.Names() {
				b, e := d.Read(n)
				if text, f := p.read(n); e != f || string(b) != text {
					t.Fatalf("seed %d, step %d, behind %s: %q has %q, want %q", seed, i, what, n, b, text)
				}
			}
		}
	}
}

// P3.2

// safeOf tells what is safe of a file by taking the power of a disk to which the same was done.
func safeOf(t *testing.T, do func(d *Disk), name string) string {
	t.Helper()
	d := New(1000)
	do(d)
	d.Off(0)
	d.On()
	b, e := d.Read(name)
	want(t, "Read", e, api.OK)
	return string(b)
}

func TestWhatIsSafeStaysSafe(t *testing.T) {
	texts := []string{"one", "", "two", "three", "\x00\xff", "four"}
	for synced := range len(texts) + 1 {
		for keep := -1; keep < 12; keep++ {
			do := func(d *Disk) {
				put(t, d, "a", "")
				for i, text := range texts {
					if i == synced {
						want(t, "Sync", d.Sync("a"), api.OK)
					}
					put(t, d, "a", text)
				}
				put(t, d, "b", "other")
				want(t, "Sync", d.Sync("b"), api.OK)
			}
			d := New(1000)
			do(d)
			safe := strings.Join(texts[:synced], "")
			if synced == len(texts) {
				safe = ""
			}
			if got := safeOf(t, do, "a"); got != safe {
				t.Fatalf("safe: %q, want %q", got, safe)
			}
			all := strings.Join(texts, "")
			kept := min(max(keep, 0), len(all)-len(safe))
			d.Off(keep)
			d.On()
			wantFile(t, d, "a", all[:len(safe)+kept])
			wantFile(t, d, "b", "other")
		}
	}
}

func TestThePowerGoesInEachRawWrite(t *testing.T) {
	calls := []func(d *Disk) api.Errno{
		func(d *Disk) api.Errno { return d.Append("a", []byte("abc")) },
		func(d *Disk) api.Errno { return d.Sync("a") },
		func(d *Disk) api.Errno { return d.Append("a", []byte("def")) },
		func(d *Disk) api.Errno { return d.Append("b", []byte("123")) },
		func(d *Disk) api.Errno { return d.Sync("b") },
		func(d *Disk) api.Errno { return d.Truncate("b", 2) },
		func(d *Disk) api.Errno { return d.Rename("b", "a") },
		func(d *Disk) api.Errno { return d.Append("a", []byte("4")) },
		func(d *Disk) api.Errno { return d.Remove("a") },
	}
	// Of each raw write in which the power goes, with 2 bytes kept: the files there are then, name and text in turn.
	after := [][]string{
		{"a", "ab"}, {"a", "ab"}, {"a", "abcde"}, {"a", "abcde", "b", "12"}, {"a", "abcde", "b", "12"},
		{"a", "abcde", "b", "123"}, {"a", "abcde", "b", "12"}, {"a", "124"}, {"a", "124"},
	}
	for fatal := range calls {
		d := New(1000)
		d.Arm(fatal+1, 2)
		for i := range fatal {
			want(t, "ahead of the armed one", calls[i](d), api.OK)
		}
		want(t, "the armed one", calls[fatal](d), api.ErrDown)
		for _, call := range calls {
			want(t, "behind the armed one", call(d), api.ErrDown)
		}
		wantWrites(t, d, fatal+1)
		d.On()
		var got []string
		for _, n := range d.Names() {
			b, _ := d.Read(n)
			got = append(got, n, string(b))
		}
		if !slices.Equal(got, after[fatal]) {
			t.Errorf("the power went in raw write %d: %q, want %q", fatal+1, got, after[fatal])
		}
	}
}

// P3.3

func TestARefusedCallChangesNothing(t *testing.T) {
	long := make([]byte, api.MaxFile+1)
	refused := []func(d *Disk) api.Errno{
		func(d *Disk) api.Errno { return d.Append("", []byte("x")) },
		func(d *Disk) api.Errno { return d.Append("a", long) },
		func(d *Disk) api.Errno { return d.Append("new", long) },
		func(d *Disk) api.Errno { return d.Append("a", long[:100]) },
		func(d *Disk) api.Errno { return d.Append("new", long[:100]) },
		func(d *Disk) api.Errno { return d.Sync("") },
		func(d *Disk) api.Errno { return d.Sync("new") },
		func(d *Disk) api.Errno { return d.Truncate("", 0) },
		func(d *Disk) api.Errno { return d.Truncate("new", 0) },
		func(d *Disk) api.Errno { return d.Truncate("a", -1) },
		func(d *Disk) api.Errno { return d.Truncate("a", 6) },
		func(d *Disk) api.Errno { return d.Rename("", "a") },
		func(d *Disk) api.Errno { return d.Rename("a", "") },
		func(d *Disk) api.Errno { return d.Rename("new", "a") },
		func(d *Disk) api.Errno { return d.Rename("new", "newer") },
		func(d *Disk) api.Errno { return d.Remove("") },
		func(d *Disk) api.Errno { return d.Remove("new") },
		func(d *Disk) api.Errno { _, e := d.Read(""); return e },
		func(d *Disk) api.Errno { _, e := d.Read("new"); return e },
	}
	for i, call := range refused {
		d := with(t, 99, "a", "abc", "b", "")
		put(t, d, "a", "de")
		d.Arm(2, 1)
		before := look(d)
		if call(d) == api.OK {
			t.Errorf("call %d isn't refused", i)
		}
		if !alike(look(d), before) {
			t.Errorf("call %d has changed what is seen: %v, it was %v", i, look(d), before)
		}
		put(t, d, "a", "f")
		want(t, "the armed one", d.Append("b", nil), api.ErrDown)
		d.On()
		wantFile(t, d, "a", "abcd")
		wantNames(t, d, "a", "b")
	}
}

func TestACallWithoutPowerChangesNothing(t *testing.T) {
	d := with(t, 99, "a", "abc", "b", "")
	before := look(d)
	d.Off(0)
	d.Arm(2, 1)
	d.Append("a", []byte("x"))
	d.Append("new", nil)
	d.Sync("a")
	d.Truncate("a", 0)
	d.Rename("a", "b")
	d.Remove("a")
	d.On()
	if !alike(look(d), before) {
		t.Errorf("the disk is %v, it was %v", look(d), before)
	}
	put(t, d, "a", "de")
	want(t, "the armed one", d.Sync("a"), api.ErrDown)
	d.On()
	wantFile(t, d, "a", "abcd")
}

// P3.4

func TestWhatIsHandedInIsNeitherChangedNorKept(t *testing.T) {
	whole := []byte("abcdefgh")
	d := New(100)
	want(t, "Append", d.Append("a", whole[2:4]), api.OK)
	want(t, "Append", d.Append("a", whole[4:5]), api.OK)
	put(t, d, "a", "xyz")
	want(t, "Append", d.Append("b", whole[:3]), api.OK)
	put(t, d, "b", "xyz")
	if string(whole) != "abcdefgh" {
		t.Errorf("what was handed in is %q now", whole)
	}
	copy(whole, "--------")
	wantFile(t, d, "a", "cdexyz")
	wantFile(t, d, "b", "abcxyz")
	d.Sync("a")
	d.Off(9)
	d.On()
	want(t, "Truncate", d.Truncate("a", 1), api.OK)
	put(t, d, "a", "123")
	if string(whole) != "--------" {
		t.Errorf("what was handed in is %q now", whole)
	}
}

func TestWhatIsAnsweredIsNewMemory(t *testing.T) {
	d := with(t, 100, "a", "abcdef", "b", "x")
	first, _ := d.Read("a")
	second, _ := d.Read("a")
	copy(first, "------")
	first = append(first[:6], "behind"...)
	wantFile(t, d, "a", "abcdef")
	if string(second) != "abcdef" {
		t.Errorf("two answers share memory: %q", second)
	}
	put(t, d, "a", "ghi")
	want(t, "Truncate", d.Truncate("a", 2), api.OK)
	put(t, d, "a", "XYZ")
	if string(first) != "------behind" || string(second) != "abcdef" {
		t.Errorf("the disk writes into an answer: %q, %q", first, second)
	}
	wantFile(t, d, "a", "abXYZ")
	names := d.Names()
	names[0], names[1] = "p", "q"
	wantNames(t, d, "a", "b")
}

// An answer with spare room mustn't reach into the disk's own.
func TestAnAnswersSpareRoomIsItsOwn(t *testing.T) {
	d := New(100)
	put(t, d, "a", "abcdefgh")
	want(t, "Truncate", d.Truncate("a", 3), api.OK)
	b, _ := d.Read("a")
	put(t, d, "a", "XYZ")
	_ = append(b, "123"...)
	wantFile(t, d, "a", "abcXYZ")
}

func TestTwoDisksHaveNothingInCommon(t *testing.T) {
	d, other := New(10), New(20)
	put(t, d, "a", "abc")
	put(t, other, "a", "xyz")
	wantFile(t, d, "a", "abc")
	d.Arm(1, 1)
	want(t, "Sync of the other", other.Sync("a"), api.OK)
	want(t, "Sync", d.Sync("a"), api.ErrDown)
	if other.Down() || other.Writes() != 2 || d.Writes() != 2 {
		t.Errorf("the other: %v, %d", other.Down(), other.Writes())
	}
	d.Room(0)
	put(t, other, "b", "123456")
	d.On()
	wantFile(t, d, "a", "a")
	wantNames(t, d, "a")
	want(t, "Remove", other.Remove("a"), api.OK)
	wantNames(t, d, "a")
	wantNames(t, other, "b")
	other.Off(0)
	if d.Down() {
		t.Error("the power of the one goes with the other's")
	}
}
