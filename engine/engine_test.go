package engine

import (
	"fmt"
	"slices"
	"strings"
	"testing"

	"quern/api"
	"quern/disk"
)

// opened opens an engine that can be opened.
func opened(t *testing.T, d *disk.Disk, src string, per int) *Engine {
	t.Helper()
	g, e := Open(d, src, per)
	if g == nil || e != api.OK {
		t.Fatalf("Open: %v, %s", g != nil, errorName(e))
	}
	return g
}

func wantNoOpen(t *testing.T, d *disk.Disk, src string, per int, want api.Errno) {
	t.Helper()
	if g, e := Open(d, src, per); g != nil || e != want {
		t.Errorf("Open: %v, %s; not %s", g != nil, errorName(e), errorName(want))
	}
}

func wantPropose(t *testing.T, g *Engine, e api.Entry, want string) {
	t.Helper()
	if got := told(g.Propose(e)); got != want {
		t.Errorf("%s: %s; not %s", named(e), got, want)
	}
}

func wantSave(t *testing.T, g *Engine, want api.Errno) {
	t.Helper()
	if e := g.Save(); e != want {
		t.Errorf("Save: %s; not %s", errorName(e), errorName(want))
	}
}

// wantHeld asks for how many entries there are, the states and the sessions.
func wantHeld(t *testing.T, g *Engine, count int, states, sessions string) {
	t.Helper()
	d := g.Data()
	if got, own := shownAll(d.States), people(d.Sessions); g.Count() != count || got != states || own != sessions {
		t.Errorf("%d | %.500s | %.500s; not %d | %.500s | %.500s", g.Count(), got, own, count, states, sessions)
	}
	if b := g.Book(); tell(b.Data()) != tell(d) {
		t.Errorf("Book: %.500s", tell(b.Data()))
	}
}

// wantFiles asks for a disk's files, name and bytes in turn.
func wantFiles(t *testing.T, d *disk.Disk, want ...string) {
	t.Helper()
	if got := files(d); !slices.Equal(got, want) {
		t.Errorf("files: %.900q; not %.900q", got, want)
	}
}

// wantWrites asks how many raw writes do makes.
func wantWrites(t *testing.T, d *disk.Disk, want int, do func()) {
	t.Helper()
	before := d.Writes()
	do()
	if got := d.Writes() - before; got != want {
		t.Errorf("%d raw writes; not %d", got, want)
	}
}

// The examples: of the chapter, and of the whole.

func TestTheChaptersExample(t *testing.T) {
	d := disk.New(room)
	g := opened(t, d, adder, 3)
	wantHeld(t, g, 0, "0", "")
	next := "version 2; state n: int; on upgrade(): int { set n = n * 10 + 7; ret n; }"
	wantPropose(t, g, upgradeTo(next), "7")
	wantHeld(t, g, 1, "7", "")
	g = opened(t, d, adder, 3)
	wantHeld(t, g, 1, "7", "")
	if b := g.Book(); b.Version() != 2 || g.Data().Source != next {
		t.Error(b.Version(), g.Data().Source)
	}
	wantSave(t, g, api.OK)
	for _, src := range []string{adder, next, "?", ""} { // with a snapshot, that is
		g := opened(t, d, src, 3)
		wantHeld(t, g, 1, "7", "")
		if b := g.Book(); b.Version() != 2 || g.Data().Source != next {
			t.Error(b.Version(), g.Data().Source)
		}
	}
}

// Whatever src is, if it loads: it is the program of the beginning, of which the entries are done.
func TestOtherTexts(t *testing.T) {
	d := disk.New(room)
	wantPropose(t, opened(t, d, adder, 3), upgradeTo("version 2; state n: int; on upgrade(): int { set n = n + 7; ret n; }"), "7")
	wantHeld(t, opened(t, d, "version 1; state n: int; state m: int;", 3), 1, "7", "")
	wantHeld(t, opened(t, d, "version 1;", 3), 1, "7", "")
	wantHeld(t, opened(t, d, "version 5; state k: text;", 3), 1, `""`, "") // the entry can't be done there
	wantNoOpen(t, d, "?", 3, api.ErrToken)
}

func TestTheWholesExamples(t *testing.T) {
	d := disk.New(room)
	g := opened(t, d, adder, 2)
	wantPropose(t, g, do("3.1v1 add(5)"), "5")
	wantPropose(t, g, do("3.1v1 add(5)"), "5")
	wantHeld(t, g, 2, "5", "3.1 = 5")
	wantPropose(t, g, upgradeTo("version 2; state n: int; on upgrade(): int { set n = n * 10; ret n; }"), "50")
	wantPropose(t, g, do("3.2v1 add(5)"), "ErrStale")
	wantHeld(t, g, 4, "50", "3.1 = 5")
	for keep, want := range map[int]string{-1: "4 50", 0: "4 50", 7: "4 50", 8: "4 50", 19: "4 50", 20: "5 60", 100: "5 60"} {
		d := with("s000000004", snapshot(4, bookOf(strings.Replace(adder, "1", "2", 1), do("3.1v2 add(50)"))), "j000000003", segment(adds(1, 2)...))
		g := opened(t, d, "", 3)
		d.Arm(1, keep)
		wantPropose(t, g, do("4.1v2 add(10)"), "ErrDown!")
		wantHeld(t, g, 4, "50", "3.1 = 50")
		d.On()
		g = opened(t, d, "", 3)
		if got := fmt.Sprint(g.Count(), " ", shownAll(g.Data().States)); got != want {
			t.Errorf("%d bytes are kept: %s; not %s", keep, got, want)
		}
	}
}

// Open.

func TestOpenOfNothing(t *testing.T) {
	for _, per := range []int{least, -1, 0, 1, 2, greatest} {
		wantNoOpen(t, nil, adder, per, api.ErrNil)
		wantNoOpen(t, nil, "?", per, api.ErrNil)
	}
	for _, per := range []int{least, -1, 0} {
		d := disk.New(room)
		wantNoOpen(t, d, adder, per, api.ErrArg)
		wantNoOpen(t, d, "?", per, api.ErrArg)
		d.Off(0)
		wantNoOpen(t, d, adder, per, api.ErrArg)
		wantWrites(t, d, 0, func() { wantNoOpen(t, with("j000000001", "torn"), adder, per, api.ErrArg) })
	}
	for _, per := range []int{1, 2, greatest} {
		d := disk.New(room)
		wantWrites(t, d, 0, func() { wantHeld(t, opened(t, d, adder, per), 0, "0", "") })
		wantFiles(t, d)
		d.Off(0)
		wantNoOpen(t, d, adder, per, api.ErrDown)
		wantNoOpen(t, d, "?", per, api.ErrDown)
		d.On()
		wantHeld(t, opened(t, d, wide(3), per), 0, `0, "", [], {}`, "")
	}
}

// faults are texts that Load refuses.
var faults = map[string]api.Errno{
	"": api.ErrSyntax, "?": api.ErrToken, "version 1": api.ErrSyntax, "version 0;": api.ErrVersion, "version 1; state abcdefghijklmnopq: int;": api.ErrLong, "version 1; state n: int; state n: int;": api.ErrTwice,
	"version 1;" + strings.Repeat(" ", 16384): api.ErrLong, "version 1; state l: [[[[int]]]];": api.ErrDeep, "version 1; on f(): int { ret y; }": api.ErrName, "version 1; on f(): int { ret true; }": api.ErrType, "version 1; on f(): int { set f = 1; }": api.ErrPlace,
}

func TestTexts(t *testing.T) {
	for src, want := range faults {
		d := disk.New(room)
		wantNoOpen(t, d, src, 1, want)
		// the journal isn't looked at, nor mended
		for _, b := range []string{"torn", segment(adds(1, 2)...) + "torn", frame("no entry")} {
			d := with("j000000001", b, "j000000007", "")
			wantWrites(t, d, 0, func() { wantNoOpen(t, d, src, 1, want) })
			wantFiles(t, d, "j000000001", b, "j000000007", "")
		}
		// nor where a snapshot is, but isn't whole
		wantNoOpen(t, with("s000000000", "torn"), src, 1, want)
		wantNoOpen(t, with("s000000002", snapshot(1, bookOf(adder)), "draft", snapshot(0, bookOf(adder))), src, 1, want)
		// with a snapshot it plays no part
		wantHeld(t, opened(t, with("s000000000", snapshot(0, bookOf(adder))), src, 1), 0, "0", "")
	}
	for _, src := range []string{adder, "version 1;", "version 7; state n: int;", wide(1099511627776)} {
		g := opened(t, disk.New(room), src, 1)
		if got, want := tell(g.Data()), tell(behind(src, nil).Data()); got != want || g.Book().Version() != behind(src, nil).Version() {
			t.Errorf("%s; not %s", got, want)
		}
	}
}

// held is a disk's files, as with takes them, and what Open finds there.
type held struct {
	files  []string
	count  int
	states string
}

func TestSnapshotsAndJournals(t *testing.T) {
	three, five := bookOf(adder, adds(1, 3)...), bookOf(adder, adds(1, 5)...)
	other := snapshot(3, bookOf(adder, do("9.1v1 add(100)")))
	noEntry := frame("no entry")
	for i, c := range []held{
		{[]string{"j000000001", ""}, 0, "0"},
		{[]string{"j000000001", segment(adds(1, 3)...)}, 3, "3"},
		{[]string{"j000000001", segment(adds(1, 3)...) + "torn"}, 3, "3"},
		{[]string{"j000000001", segment(adds(1, 3)...), "j000000004", segment(adds(4, 2)...)}, 5, "5"},
		{[]string{"j000000001", segment(adds(1, 3)...), "j000000005", segment(adds(5, 2)...)}, 3, "3"},
		{[]string{"s000000000", snapshot(0, bookOf(adder))}, 0, "0"},
		{[]string{"s000000000", snapshot(0, bookOf(adder)), "j000000001", segment(adds(1, 3)...)}, 3, "3"},
		{[]string{"s000000003", snapshot(3, three), "j000000001", segment(adds(1, 3)...)}, 3, "3"},
		{[]string{"s000000003", snapshot(3, three), "j000000001", segment(adds(1, 5)...)}, 5, "5"},
		{[]string{"s000000003", snapshot(3, three), "j000000002", segment(adds(2, 2)...)}, 3, "3"},
		{[]string{"s000000003", snapshot(3, three), "j000000003", segment(adds(3, 3)...)}, 5, "5"},
		{[]string{"s000000003", snapshot(3, three), "j000000004", ""}, 3, "3"},
		{[]string{"s000000003", snapshot(3, three), "j000000004", segment(adds(4, 2)...)}, 5, "5"},
		{[]string{"s000000003", snapshot(3, three), "j000000002", segment(adds(2, 1)...), "j000000003", segment(adds(3, 1)...), "j000000004", segment(adds(4, 1)...)}, 4, "4"},
		// of several snapshots the newest that is whole
		{[]string{"s000000003", snapshot(3, three), "s000000005", snapshot(5, five), "j000000001", segment(adds(1, 6)...)}, 6, "6"},
		{[]string{"s000000003", snapshot(3, three), "s000000005", snapshot(5, five)[1:], "j000000001", segment(adds(1, 6)...)}, 6, "6"},
		{[]string{"s000000003", snapshot(3, three), "s000000005", snapshot(4, five), "draft", "torn", "j000000004", segment(adds(4, 1)...)}, 4, "4"},
		// what the snapshot is behind isn't looked at any more
		{[]string{"s000000003", other, "j000000001", segment(adds(1, 3)...)}, 3, "100"},
		{[]string{"s000000003", other, "j000000001", segment(adds(1, 5)...)}, 5, "102"},
		{[]string{"s000000003", other, "j000000001", noEntry + frame("") + noEntry}, 3, "100"},
		{[]string{"s000000003", other, "j000000001", noEntry + noEntry + noEntry + segment(adds(1, 1)...)}, 4, "101"},
		{[]string{"s000000003", other, "j000000003", noEntry + segment(adds(1, 2)...)}, 5, "102"},
		// entries that are refused are done all the same
		{[]string{"j000000001", segment(do("1.1v2 add(1)"), api.Entry{Kind: 1}, do("16.1v1 add(1)"), upgradeTo("?"), do("1.1v1 add(4)"), do("1.1v1 add(4)"))}, 6, "4"},
		{[]string{"s999999998", snapshot(999999998, three), "j999999999", segment(adds(4, 3)...)}, 1000000001, "6"},
	} {
		d := with(c.files...)
		for range 2 { // opened twice it is the same
			g := opened(t, d, adder, 2)
			if got := shownAll(g.Data().States); g.Count() != c.count || got != c.states {
				t.Errorf("disk %d: %d, %s; not %d, %s", i, g.Count(), got, c.count, c.states)
			}
			if slices.Contains(c.files, other) != strings.Contains(people(g.Data().Sessions), "9.1 = 100") {
				t.Errorf("disk %d: %s", i, people(g.Data().Sessions))
			}
			if strings.HasPrefix(c.files[0], "s") {
				opened(t, d, "?", 1)
			}
		}
		// and goes on behind these
		wantPropose(t, opened(t, d, adder, 9), do("5.1v1 add(1000)"), fmt.Sprint(plainNumber(c.states)+1000))
		wantHeldNumber(t, opened(t, d, adder, 9), c.count+1, fmt.Sprint(plainNumber(c.states)+1000))
	}
}

func wantHeldNumber(t *testing.T, g *Engine, count int, states string) {
	t.Helper()
	if got := shownAll(g.Data().States); g.Count() != count || got != states {
		t.Errorf("%d, %s; not %d, %s", g.Count(), got, count, states)
	}
}

func TestRefusedDisks(t *testing.T) {
	three := snapshot(3, bookOf(adder, adds(1, 3)...))
	noEntry, noJournal := frame("no entry"), segment(adds(1, 1)...)
	source := counts(nil, adder)
	noState := snapshot(3, string(append(source, 2, 9, 0, 0)))
	broken := snapshot(3, string(append(counts(nil, "?"), 2, 1, 0, 0)))
	for want, list := range map[api.Errno][][]string{
		api.ErrForm: {
			// a snapshot that is no book
			{"s000000003", snapshot(3, "")}, {"s000000003", snapshot(3, "no book"), "j000000004", ""}, {"s000000003", snapshot(3, bookOf(adder)+"\x00"), "j000000004", ""}, {"s000000003", snapshot(3, adder), "j000000001", segment(adds(1, 5)...)},
			{"s000000002", snapshot(2, bookOf(adder)), "s000000003", snapshot(3, "no book"), "j000000004", ""}, // though there is one below it
			{"s000000003", snapshot(3, string(append(source, 1, 1, 0))), "j000000004", ""},                     // its state is none
			// a journal that begins too late
			{"j000000002", ""}, {"j000000002", noJournal}, {"j000000003", noEntry}, {"j999999999", ""}, {"s000000000", snapshot(0, bookOf(adder)), "j000000002", noJournal},
			{"s000000003", three, "j000000005", ""}, {"s000000003", three, "j000000005", noJournal}, {"s000000003", three, "j000000005", noEntry}, {"s000000003", three, "j999999999", segment(adds(1, 3)...)},
			// or ends too early
			{"s000000001", snapshot(1, bookOf(adder))}, {"s000000003", three}, {"s999999999", snapshot(999999999, bookOf(adder))}, {"s000000003", three, "j000000001", ""}, {"s000000003", three, "j000000001", segment(adds(1, 2)...)}, {"s000000003", three, "j000000003", ""},
			{"s000000003", three, "j000000001", segment(adds(1, 2)...) + segment(adds(3, 1)...)[1:]}, {"s000000003", three, "j000000001", segment(adds(1, 2)...), "j000000004", noJournal},
			// a record that is no entry
			{"j000000001", noEntry}, {"j000000001", frame("")}, {"j000000001", segment(adds(1, 3)...) + noEntry}, {"j000000001", noEntry + segment(adds(1, 3)...)}, {"j000000001", segment(adds(1, 3)...), "j000000004", noEntry}, {"s000000003", three, "j000000004", noEntry},
			{"s000000003", three, "j000000001", noEntry + noEntry + noEntry + noEntry}, {"s000000003", three, "j000000003", segment(adds(3, 2)...) + noEntry + segment(adds(5, 1)...)},
			{"j000000001", frame("\x01\x00\x00\x00\x00\x00")}, {"j000000001", frame("\x04\x00\x00\x00\x00")}, {"j000000001", frame("\x01\x00\x00\x00\x01")}, {"j000000001", frame("\x81\x00\x00\x00\x00\x00")}, {"j000000001", frame(string(counts([]byte{3, 0, 0, 0}, strings.Repeat("#", 16385))))},
		},
		// the errors of its text and its state, whatever else is wrong
		api.ErrToken:   {{"s000000003", broken, "j000000004", ""}, {"s000000003", broken, "j000000005", noEntry}, {"s000000003", broken}},
		api.ErrVersion: {{"s000000003", noState, "j000000004", ""}, {"s000000003", noState, "j000000009", ""}},
	} {
		for _, l := range list {
			wantNoOpen(t, with(l...), adder, 2, want)
			if strings.HasPrefix(l[0], "s") {
				wantNoOpen(t, with(l...), "version 0;", 2, want) // it plays no part there
			}
			wantNoOpen(t, with(l...), adder, 0, api.ErrArg)
			d := with(l...)
			d.Off(0)
			wantNoOpen(t, d, adder, 2, api.ErrDown)
			d.On()
			wantNoOpen(t, d, adder, 1, want)
			wantNoOpen(t, d, adder, 1, want)
		}
	}
}

// The order of what is looked at, by what of the journal is mended.
func TestOrderOfOpen(t *testing.T) {
	three, torn := snapshot(3, bookOf(adder, adds(1, 3)...)), segment(adds(1, 2)...)+"torn"
	for _, c := range []struct {
		src    string
		files  []string
		writes int
		want   api.Errno
	}{
		{adder, []string{"j000000001", torn}, 2, api.OK}, {adder, []string{"j000000001", torn, "j000000004", "", "j000000005", ""}, 4, api.OK}, {adder, []string{"j000000001", segment(adds(1, 2)...), "j000000003", "torn"}, 3, api.OK},
		{adder, []string{"s000000001", "torn", "draft", "torn", "j000000001", ""}, 1, api.OK},            // these are let be
		{"?", []string{"j000000001", torn}, 0, api.ErrToken},                                             // ahead of the journal
		{adder, []string{"s000000002", snapshot(2, "no book"), "j000000001", torn}, 0, api.ErrForm},      // likewise
		{adder, []string{"s000000003", three, "j000000001", torn}, 2, api.ErrForm},                       // behind it
		{adder, []string{"j000000002", torn, "j000000005", ""}, 3, api.ErrForm},                          // likewise
		{adder, []string{"j000000001", frame("no entry") + "torn", "j000000004", ""}, 3, api.ErrForm},    // likewise
		{adder, []string{"s000000003", three, "j000000004", frame("no entry") + "t"}, 2, api.ErrForm},    // likewise
		{adder, []string{"s000000003", three, "j000000004", "", "j000000006", "torn"}, 2, api.OK},        // likewise
		{"?", []string{"s000000003", three, "j000000002", segment(adds(2, 3)...) + "torn"}, 2, api.OK},   // likewise
		{adder, []string{"s000000003", three, "j000000005", frame("no entry") + "t"}, 2, api.ErrForm},    // likewise
		{adder, []string{"s000000000", snapshot(0, bookOf(adder)), "j000000001", "torn"}, 2, api.OK},     // likewise
		{adder, []string{"s000000009", snapshot(9, "no book"), "j000000001", "torn"}, 0, api.ErrForm},    // ahead of it
		{adder, []string{"s000000003", three, "s000000009", "no snapshot", "j000000004", ""}, 1, api.OK}, // that is let be too
	} {
		for n := range c.writes + 2 {
			d := with(c.files...)
			d.Arm(n, 0)
			want, writes := c.want, c.writes
			if n > 0 && n <= c.writes { // the power's going is told ahead of what the journal says
				want, writes = api.ErrDown, n
			}
			wantWrites(t, d, writes, func() {
				if g, e := Open(d, c.src, 2); (g != nil) != (want == api.OK) || e != want {
					t.Errorf("%.200q: %v, %s; not %s", c.files, g != nil, errorName(e), errorName(want))
				}
			})
			if d.On(); want == api.ErrDown {
				if _, e := Open(d, c.src, 2); e != c.want {
					t.Errorf("%.200q, opened again: %s; not %s", c.files, errorName(e), errorName(c.want))
				}
			}
		}
	}
}

// Propose.

func TestKinds(t *testing.T) {
	d := disk.New(room)
	g := opened(t, d, adder, 100)
	var laid []api.Entry
	for i, s := range []struct {
		e                    api.Entry
		told, states, people string
	}{
		{api.Entry{Kind: 1}, "none", "0", ""},
		{api.Entry{Kind: 1, Version: 7, Client: 99, Seq: greatest, Data: "some data"}, "none", "0", ""},
		{do("3.1v1 add(5)"), "5", "5", "3.1 = 5"},
		{do("3.1v1 add(5)"), "5", "5", "3.1 = 5"},
		{do("3.2v1 add(9223372036854775807)"), "ErrOver", "5", "3.2 = ErrOver"},
		{do("3.1v1 add(5)"), "ErrOld", "5", "3.2 = ErrOver"},
		{do("3.3v2 add(5)"), "ErrStale", "5", "3.2 = ErrOver"},
		{do("3.3v0 add(5)"), "ErrStale", "5", "3.2 = ErrOver"},
		{do("16.1v1 add(5)"), "ErrArg", "5", "3.2 = ErrOver"}, // that is of the book, and can stand in a log
		{do("4.0v1 add(5)"), "ErrArg", "5", "3.2 = ErrOver"},
		{do("4.1099511627777v1 add(5)"), "ErrArg", "5", "3.2 = ErrOver"},
		{do("4.1v1 none()"), "ErrCommand", "5", "3.2 = ErrOver, 4.1 = ErrCommand"},
		{api.Entry{Kind: 2, Version: 1, Client: 4, Seq: 2}, "ErrCommand", "5", "3.2 = ErrOver, 4.2 = ErrCommand"},
		{api.Entry{Kind: 2, Version: 1, Client: 4, Seq: 3, Data: strings.Repeat("\xff", 16384)}, "ErrCommand", "5", "3.2 = ErrOver, 4.3 = ErrCommand"},
		{upgradeTo("?"), "ErrToken", "5", "3.2 = ErrOver, 4.3 = ErrCommand"},
		{upgradeTo(adder), "ErrVersion", "5", "3.2 = ErrOver, 4.3 = ErrCommand"},
		{upgradeTo("version 2; on upgrade(): int { ret 1 / 0; }"), "ErrZero", "5", "3.2 = ErrOver, 4.3 = ErrCommand"},
		{api.Entry{Kind: 3, Version: 9, Client: 50, Seq: 1, Data: strings.Replace(adder, "1", "2", 1)}, "none", "5", "3.2 = ErrOver, 4.3 = ErrCommand"},
		{do("3.3v1 add(5)"), "ErrStale", "5", "3.2 = ErrOver, 4.3 = ErrCommand"},
		{do("3.3v2 add(5)"), "10", "10", "3.3 = 10, 4.3 = ErrCommand"},
	} {
		wantWrites(t, d, 2, func() { wantPropose(t, g, s.e, s.told) })
		wantHeld(t, g, i+1, s.states, s.people)
		laid = append(laid, s.e)
		wantFiles(t, d, "j000000001", segment(laid...))
		wantHeld(t, opened(t, with(files(d)...), adder, 1), i+1, s.states, s.people)
	}
}

func TestEntriesThatCantStand(t *testing.T) {
	long := strings.Repeat("#", 16385)
	list := []api.Entry{
		{}, {Kind: -1}, {Kind: 4}, {Kind: least}, {Kind: greatest}, {Kind: 258}, {Kind: 1, Version: -1}, {Kind: 1, Client: -1}, {Kind: 1, Seq: -1}, {Kind: 2, Version: least}, {Kind: 3, Client: least}, {Kind: 2, Seq: least},
		{Kind: 1, Data: long}, {Kind: 2, Data: long}, {Kind: 3, Data: long}, {Kind: 3, Data: strings.Repeat(long, 70)}, {Kind: 0, Data: adder},
	}
	e := do("1.1v1 add(1)")
	e.Client = -1
	list = append(list, e)
	d := disk.New(room)
	g := opened(t, d, adder, 2)
	wantPropose(t, g, do("1.1v1 add(5)"), "5")
	refused := func(want string) {
		t.Helper()
		for _, e := range list {
			wantWrites(t, d, 0, func() { wantPropose(t, g, e, want) })
			wantHeld(t, g, 1, "5", "1.1 = 5")
		}
	}
	refused("ErrArg!")
	wantFiles(t, d, "j000000001", segment(do("1.1v1 add(5)")))
	d.Room(0)
	refused("ErrArg!")
	d.Off(0)
	refused("ErrArg!") // ahead of the power
	d.On()
	d.Room(room)
	wantPropose(t, g, do("1.2v1 add(5)"), "10") // none of it ended the engine
	d.Arm(1, 0)
	wantPropose(t, g, do("1.3v1 add(5)"), "ErrDown!")
	for _, e := range list {
		wantPropose(t, g, e, "ErrArg!") // ahead of the end too
	}
}

// What is right at the limits.
func TestGreatestEntries(t *testing.T) {
	data := strings.Repeat("#", 16384)
	list := []api.Entry{{Kind: 1, Data: data}, {Kind: 1, Version: greatest, Client: greatest, Seq: greatest, Data: data}, {Kind: 3, Version: greatest, Client: greatest, Seq: greatest, Data: "version 2;" + data[10:]}}
	d := disk.New(room)
	g := opened(t, d, adder, 2)
	for i, e := range list {
		wantPropose(t, g, e, "none")
		wantHeldNumber(t, g, i+1, []string{"0", "0", ""}[i])
	}
	wantFiles(t, d, "j000000001", segment(list[:2]...), "j000000003", segment(list[2]))
	if g := opened(t, d, adder, 2); g.Count() != 3 || g.Data().Source != list[2].Data {
		t.Error(g.Count())
	}
}

func TestSegments(t *testing.T) {
	for per := 1; per < 6; per++ {
		d := disk.New(room)
		g := opened(t, d, adder, per)
		for i, e := range adds(1, 9) {
			wantWrites(t, d, 2, func() { wantPropose(t, g, e, fmt.Sprint(i+1)) })
		}
		var want []string
		for at := 1; at <= 9; at += per {
			want = append(want, name("j", at), segment(adds(at, min(per, 10-at))...))
		}
		wantFiles(t, d, want...)
		wantWrites(t, d, (8+per)/per, func() { g = opened(t, d, adder, 100) })
		wantPropose(t, g, do("1.10v1 add(1)"), "10") // now a segment may have more
		want[len(want)-1] += segment(do("1.10v1 add(1)"))
		wantFiles(t, d, want...)
	}
}

// A full disk.

func TestFullDisk(t *testing.T) {
	size := len(segment(do("1.1v1 add(1)")))
	for n := range 4 {
		d := disk.New(n*size + size - 1)
		g := opened(t, d, adder, 2)
		for i, e := range adds(1, n) {
			wantPropose(t, g, e, fmt.Sprint(i+1))
		}
		laid, sessions := files(d), people(behind(adder, adds(1, n)).Data().Sessions)
		for range 3 {
			wantWrites(t, d, 0, func() { wantPropose(t, g, do("2.1v1 add(1)"), "ErrFull!") })
			wantHeld(t, g, n, fmt.Sprint(n), sessions)
			wantWrites(t, d, 0, func() { wantSave(t, g, api.ErrFull) })
			wantHeld(t, g, n, fmt.Sprint(n), sessions)
		}
		wantFiles(t, d, laid...)
		d.Room(n*size + size)
		wantPropose(t, g, do("1.9v1 add(1)"), fmt.Sprint(n+1))
		wantHeld(t, g, n+1, fmt.Sprint(n+1), fmt.Sprintf("1.9 = %d", n+1))
		wantSave(t, g, api.ErrFull)
		d.Room(room)
		wantSave(t, g, api.OK)
		wantHeld(t, opened(t, d, "?", 2), n+1, fmt.Sprint(n+1), fmt.Sprintf("1.9 = %d", n+1))
	}
}

// More files, more bytes of a file, greater numbers than there can be: that is a full disk too.
func TestFullOtherwise(t *testing.T) {
	d := disk.New(room)
	g := opened(t, d, adder, 1)
	for i, e := range adds(1, 16) {
		wantPropose(t, g, e, fmt.Sprint(i+1))
	}
	wantPropose(t, g, do("1.17v1 add(1)"), "ErrFull!")
	wantSave(t, g, api.ErrFull)
	wantHeld(t, g, 16, "16", "1.16 = 16")
	g = opened(t, d, adder, 2) // the last segment may have one more
	wantPropose(t, g, do("1.17v1 add(1)"), "17")
	wantPropose(t, g, do("1.18v1 add(1)"), "ErrFull!")
	d.Remove("j000000001") // now there is one file less, but something is missing too
	wantNoOpen(t, d, adder, 2, api.ErrForm)

	d = disk.New(room)
	g = opened(t, d, adder, greatest)
	great := api.Entry{Kind: 1, Data: strings.Repeat("#", 16384)}
	count := 0
	for ; ; count++ {
		if _, e := g.Propose(great); e != api.OK {
			break
		}
	}
	if n := (1 << 20) / len(segment(great)); count != n || g.Count() != n {
		t.Error(count, g.Count(), n)
	}
	wantPropose(t, g, great, "ErrFull!")
	wantPropose(t, g, do("1.1v1 add(1)"), "1") // that is less, and takes the room that is left
	wantSave(t, g, api.OK)
	wantPropose(t, g, great, "ErrFull!") // the last segment stays
	wantPropose(t, opened(t, d, "?", 3), great, "none")

	d = with("s999999998", snapshot(999999998, bookOf(adder)), "j999999999", "")
	g = opened(t, d, "?", 2)
	wantPropose(t, g, do("1.1v1 add(1)"), "1")
	wantSave(t, g, api.OK)
	wantFiles(t, d, "j999999999", segment(adds(1, 1)...), "s999999999", snapshot(999999999, bookOf(adder, adds(1, 1)...)))
	wantPropose(t, g, do("1.2v1 add(1)"), "2")
	for range 2 {
		wantWrites(t, d, 0, func() { wantPropose(t, g, do("1.3v1 add(1)"), "ErrFull!") }) // no segment has such a name
		wantWrites(t, d, 0, func() { wantSave(t, g, api.ErrArg) })                        // nor has a snapshot
		wantHeld(t, g, 1000000000, "2", "1.2 = 2")
	}
	wantHeld(t, opened(t, d, "?", 2), 1000000000, "2", "1.2 = 2")
}

// A book that is too long for a snapshot, and is less long later.
func TestLongBooks(t *testing.T) {
	states, fill, empty := "", "", ""
	for i := range 28 {
		states += fmt.Sprintf("state s%d: [[int]]; ", i)
		fill += fmt.Sprintf("for i to 64 { set s%d = push(s%d, row); } ", i, i)
		empty += fmt.Sprintf("set s%d = none; ", i)
	}
	src := "version 1; state row: [int]; state none: [[int]]; " + states + "on fill(): int { for i to 64 { set row = push(row, 9223372036854775807 - i); } " + fill + "ret 1; } on empty(): int { " + empty + "ret 2; }"
	d := disk.New(room)
	g := opened(t, d, src, 1)
	wantPropose(t, g, do("1.1v1 fill()"), "1")
	for i := range 2 {
		before := tell(g.Data())
		wantWrites(t, d, 0, func() { wantSave(t, g, api.ErrLong) })
		if tell(g.Data()) != before || g.Count() != i+1 {
			t.Error(g.Count())
		}
		wantPropose(t, g, api.Entry{Kind: 1}, "none")
		if g = opened(t, d, src, 1); tell(g.Data()) != before || g.Count() != i+2 {
			t.Error(g.Count())
		}
	}
	wantPropose(t, g, do("1.2v1 empty()"), "2")
	wantSave(t, g, api.OK)
	if got := opened(t, d, "?", 1); tell(got.Data()) != tell(g.Data()) || got.Count() != 4 {
		t.Error(got.Count())
	}
}

// The power.

// Off and on again between two calls: nothing waited, and so the engine isn't ended.
func TestPowerBetweenCalls(t *testing.T) {
	d := disk.New(room)
	g := opened(t, d, adder, 2)
	for i, e := range adds(1, 9) {
		d.Off(i - 1)
		for range 2 {
			wantWrites(t, d, 0, func() {
				wantPropose(t, g, e, "ErrDown!")
				wantSave(t, g, api.ErrDown)
				wantNoOpen(t, d, adder, 2, api.ErrDown)
			})
			wantHeldNumber(t, g, i, fmt.Sprint(i))
		}
		d.On()
		wantPropose(t, g, e, fmt.Sprint(i+1))
		if i%4 == 2 {
			wantSave(t, g, api.OK)
		}
		d.Off(0)
		d.On()
	}
	wantHeld(t, g, 9, "9", "1.9 = 9")
	wantHeld(t, opened(t, d, "?", 2), 9, "9", "1.9 = 9")
}

// wantEnded asks for what an engine answers that the power's going ended, with the power on.
func wantEnded(t *testing.T, d *disk.Disk, g *Engine, count int, states, sessions string) {
	t.Helper()
	for range 2 {
		wantWrites(t, d, 0, func() {
			wantPropose(t, g, do("9.1v1 add(1)"), "ErrDown!")
			wantPropose(t, g, api.Entry{Kind: 1}, "ErrDown!")
			wantSave(t, g, api.ErrDown)
		})
		wantHeld(t, g, count, states, sessions)
	}
}

func TestPowerInPropose(t *testing.T) {
	size := len(segment(adds(1, 1)...))
	for _, per := range []int{1, 2, 3, 4} {
		for write := 1; write < 4; write++ {
			for keep := -1; keep < size+2; keep++ {
				d := disk.New(room)
				g := opened(t, d, adder, per)
				for i, e := range adds(1, 3) {
					wantPropose(t, g, e, fmt.Sprint(i+1))
				}
				d.Arm(write, keep)
				want := "ErrDown!"
				if write == 3 {
					want = "4"
				}
				wantPropose(t, g, do("1.4v1 add(1)"), want)
				if write == 3 {
					wantPropose(t, g, do("1.5v1 add(1)"), "ErrDown!")
				}
				count := g.Count()
				if count != 3+write/3 || !d.Down() {
					t.Fatal(count, d.Down())
				}
				d.On()
				wantEnded(t, d, g, count, fmt.Sprint(count), fmt.Sprintf("1.%d = %d", count, count))
				if keep >= size {
					count++ // it is there, though nobody was told
				}
				for range 2 {
					wantHeld(t, opened(t, d, adder, per), count, fmt.Sprint(count), fmt.Sprintf("1.%d = %d", count, count))
				}
			}
		}
	}
}

// Save.

func TestSave(t *testing.T) {
	d := disk.New(room)
	g := opened(t, d, adder, 2)
	wantWrites(t, d, 3, func() { wantSave(t, g, api.OK) })
	wantFiles(t, d, "s000000000", snapshot(0, bookOf(adder)))
	wantWrites(t, d, 3, func() { wantSave(t, g, api.OK) })
	for i, e := range adds(1, 5) {
		wantPropose(t, g, e, fmt.Sprint(i+1))
	}
	wantFiles(t, d, "j000000001", segment(adds(1, 2)...), "j000000003", segment(adds(3, 2)...), "j000000005", segment(adds(5, 1)...), "s000000000", snapshot(0, bookOf(adder)))
	five := snapshot(5, bookOf(adder, adds(1, 5)...))
	wantWrites(t, d, 3+1+2, func() { wantSave(t, g, api.OK) })
	for range 3 {
		wantFiles(t, d, "j000000005", segment(adds(5, 1)...), "s000000005", five)
		wantHeld(t, g, 5, "5", "1.5 = 5")
		wantWrites(t, d, 3, func() { wantSave(t, g, api.OK) })
	}
	wantPropose(t, g, do("1.6v1 add(1)"), "6")
	wantFiles(t, d, "j000000005", segment(adds(5, 2)...), "s000000005", five)
	d.Append("draft", []byte("torn"))
	d.Append("s000000002", []byte("torn"))
	d.Append("s000000009", []byte("torn"))
	d.Append("other", []byte("a file"))
	wantWrites(t, d, 1+3+3, func() { wantSave(t, g, api.OK) })
	wantFiles(t, d, "j000000005", segment(adds(5, 2)...), "other", "a file", "s000000006", snapshot(6, bookOf(adder, adds(1, 6)...)))
	wantPropose(t, g, do("1.7v1 add(1)"), "7")
	wantFiles(t, d, "j000000005", segment(adds(5, 2)...), "j000000007", segment(adds(7, 1)...), "other", "a file", "s000000006", snapshot(6, bookOf(adder, adds(1, 6)...)))
	wantHeld(t, opened(t, d, "?", 2), 7, "7", "1.7 = 7")
}

// The power goes at each raw write of a Save: with a draft left over, another snapshot, and two segments to be taken away.
func TestPowerInSave(t *testing.T) {
	const writes = 1 + 3 + 1 + 2
	size := len(snapshot(5, bookOf(adder, adds(1, 5)...)))
	for write := 1; write <= writes+1; write++ {
		for keep := -1; keep < size+2; keep++ {
			d := with("j000000001", segment(adds(1, 2)...), "j000000003", segment(adds(3, 2)...), "j000000005", segment(adds(5, 1)...), "s000000000", snapshot(0, bookOf(adder)), "draft", "torn")
			g := opened(t, d, adder, 2)
			d.Arm(write, keep)
			want := api.ErrDown
			if write > writes {
				want = api.OK
			}
			wantWrites(t, d, min(write, writes), func() { wantSave(t, g, want) })
			wantHeld(t, g, 5, "5", "1.5 = 5")
			if want == api.OK {
				continue
			}
			names := d.Names()
			d.On()
			wantEnded(t, d, g, 5, "5", "1.5 = 5")
			// the snapshot is there or the one ahead of it
			if is := slices.Contains(d.Names(), "s000000005"); is != (write > 4) || len(names) > 0 {
				t.Fatal(write, d.Names())
			}
			for range 2 {
				wantHeld(t, opened(t, d, adder, 2), 5, "5", "1.5 = 5")
			}
			g = opened(t, d, adder, 2)
			wantPropose(t, g, do("1.6v1 add(1)"), "6")
			wantSave(t, g, api.OK)
			if got := strings.Join(d.Names(), " "); got != "j000000005 s000000006" {
				t.Error(got)
			}
		}
	}
}

// Another error than a full disk: files are gone that the journal has. Prune's ends the journal, and Propose's the engine.
func TestOtherErrors(t *testing.T) {
	d := disk.New(room)
	g := opened(t, d, adder, 1)
	for i, e := range adds(1, 3) {
		wantPropose(t, g, e, fmt.Sprint(i+1))
	}
	d.Remove("j000000001")
	wantSave(t, g, api.ErrFile)
	wantSave(t, g, api.ErrFile) // not ended yet: the snapshot is laid down anew
	wantFiles(t, d, "j000000002", segment(adds(2, 1)...), "j000000003", segment(adds(3, 1)...), "s000000003", snapshot(3, bookOf(adder, adds(1, 3)...)))
	wantPropose(t, g, api.Entry{}, "ErrArg!")
	wantPropose(t, g, do("1.4v1 add(1)"), "ErrFile!")
	wantEnded(t, d, g, 3, "3", "1.3 = 3")
	wantHeld(t, opened(t, d, "?", 1), 3, "3", "1.3 = 3")
}

// Nobody.

func TestNilEngine(t *testing.T) {
	var g *Engine
	for _, e := range append(adds(1, 1), api.Entry{}, api.Entry{Kind: 1}, upgradeTo(adder)) {
		wantPropose(t, g, e, "ErrNil!")
	}
	wantSave(t, g, api.ErrNil)
	if d := g.Data(); tell(d) != tell(api.Book{}) || g.Count() != 0 || g.Book() != nil {
		t.Error(tell(d), g.Count(), g.Book() != nil)
	}
}
