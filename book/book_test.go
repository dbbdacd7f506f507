package book

import (
	"bytes"
	"fmt"
	"slices"
	"strings"
	"testing"

	"quern/api"
	"quern/machine"
)

const (
	adder = "version 1; state n: int; on add(x: int): int { set n = n + x; ret n; }"
	// wide has a handler for each way in which a command may end
	wide = `version 1; state n: int; state t: text; state l: [text]; state m: {text:[int]};
		on add(x: int): int { set n = n + x; ret n; } on div(x: int): int { set n = 7; ret 1 / x; } on spin(k: int): int { for i to k { set n = n + 1; } ret n; }
		on at(k: text): [int] { set n = 8; ret m[k]; } on put(k: text, x: [int]): {text:[int]} { set m[k] = x; ret m; } on say(x: text): text { set t = t + x; ret t; }
		on keep(x: text): [text] { set l = push(l, x); ret l; } on is(x: bool): bool { ret !x; } on none(): int {} fn in(): int { ret 5; }`
)

func applied(b *Book, list ...api.Entry) *Book {
	for _, e := range list {
		b.Apply(e)
	}
	return b
}

// The examples: of the chapter, and of the whole.

func TestExamples(t *testing.T) {
	x := made(t, adder)
	wantHistory(t, x, []step{
		{do("3.1v1 add(5)"), "5", "5", "3.1 = 5"},
		{do("3.1v1 add(5)"), "5", "5", "3.1 = 5"},
		{do("3.2v2 add(5)"), "ErrStale", "5", "3.1 = 5"},
		{do("3.2v1 add(9223372036854775807)"), "ErrOver", "5", "3.2 = ErrOver"},
		{do("3.1v1 add(5)"), "ErrOld", "5", "3.2 = ErrOver"},
		{upgradeTo("version 2; state n: int; on upgrade(): int { set n = n * 10; ret n; }"), "50", "50", "3.2 = ErrOver"},
		{do("3.3v1 add(5)"), "ErrStale", "50", "3.2 = ErrOver"},
	})
}

// New.

func TestNew(t *testing.T) {
	for src, states := range map[string]string{
		adder: "0", wide: `0, "", [], {}`, "version 1;": "", "version 1099511627776; state b: bool;# a note": "false", "version\t7;\nstate l: [ [ int ] ];on l2():int{}state m: {int:bool};": "[], {}",
		"version 1; on upgrade(): int { ret 1 / 0; }": "", "version 3; state t: text;" + strings.Repeat(" ", 16384-25): `""`,
	} {
		x := made(t, src)
		x.same(t)
		if got, want := tell(x.b.Data()), fmt.Sprintf("%q\n%s\n", src, states); got != want {
			t.Errorf("%.300s; not %.300s", got, want)
		}
		if x.b.Version() != x.p.prog.Version || x.b.Machine().Has("add", "int") != strings.Contains(src, "on add") || !x.b.Machine().Fits(x.b.Data().States) {
			t.Errorf("%.300s: version %d", src, x.b.Version())
		}
	}
}

// faults are texts that Load refuses: an @ stands ahead of what is wrong with them.
var faults = map[string]api.Errno{
	"version 1; @$": api.ErrToken, "version 1; on f(): int { ret @07; }": api.ErrToken, "version 1; on f(): text { ret @\"a": api.ErrToken,
	"version 1; state @abcdefghijklmnopq: int;": api.ErrLong, "version 1;" + strings.Repeat(" ", 16384-10) + "@ ": api.ErrLong, "version 1; " + strings.Repeat("; ", 4093) + "@;": api.ErrMany,
	"@": api.ErrSyntax, "version@": api.ErrSyntax, "version 1@": api.ErrSyntax, "version 1; state n: @num;": api.ErrSyntax, "version 1; state l: [[[[@int]]]];": api.ErrDeep,
	"@version 0;": api.ErrVersion, "@version 1099511627777;": api.ErrVersion, "version 1; state n: int; state @n: int;": api.ErrTwice,
	"version 1; on f(): int { ret @y; }": api.ErrName, "version 1; on f(): int { ret @true; }": api.ErrType, "version 1; on f(): int { @set f = 1; }": api.ErrPlace,
}

func TestFaults(t *testing.T) {
	for s, want := range faults {
		at, src := strings.Index(s, "@"), strings.Replace(s, "@", "", 1)
		if b, place, e := New(src); b != nil || place != at || e != want {
			t.Errorf("%.200s: %v, %s at %d; not %s at %d", src, b != nil, errorName(e), place, errorName(want), at)
		}
		if m, place, e := machine.Load(src); m != nil || place != at || e != want {
			t.Errorf("%.200s: layer 16 says %s at %d", src, errorName(e), place)
		}
	}
}

// Histories.

// step is an entry, what it is answered, and the states and the sessions behind it.
type step struct {
	e                    api.Entry
	told, states, people string
}

// wantHistory asks that entries are answered so, one behind the other, and by the plain book too.
func wantHistory(t *testing.T, x pair, list []step) {
	t.Helper()
	for i, s := range list {
		got := x.apply(t, s.e)
		d := x.b.Data()
		if states, people := shownAll(d.States), tellSessions(d.Sessions); got != s.told || states != s.states || people != s.people {
			t.Fatalf("entry %d, %s: %.500s | %.500s | %.500s; not %.500s | %.500s | %.500s", i, named(s.e), got, states, people, s.told, s.states, s.people)
		}
	}
}

func TestKinds(t *testing.T) {
	x := made(t, adder)
	x.apply(t, do("3.1v1 add(5)"))
	next := "version 2; state n: int;"
	data := do("3.2v1 add(5)").Data
	for _, kind := range []int{least, -1, 0, 4, 5, 6, 255, 258, greatest} {
		for _, s := range []string{"", data, next} {
			wantHistory(t, x, []step{
				{api.Entry{Kind: kind, Data: s}, "ErrArg", "5", "3.1 = 5"},
				{api.Entry{Kind: kind, Version: 1, Client: 3, Seq: 2, Data: s}, "ErrArg", "5", "3.1 = 5"},
				{api.Entry{Kind: kind, Version: 1, Client: 3, Seq: 1, Data: s}, "ErrArg", "5", "3.1 = 5"},
			})
		}
	}
	for _, e := range []api.Entry{{Kind: 1}, {Kind: 1, Version: 1, Client: 3, Seq: 2, Data: data}, {Kind: 1, Version: -1, Client: 16, Seq: -1, Data: next}, {Kind: 1, Client: 3, Seq: 1}} {
		wantHistory(t, x, []step{{e, "none", "5", "3.1 = 5"}})
	}
	wantHistory(t, x, []step{
		{api.Entry{Kind: 2, Version: 1, Client: 3, Seq: 2, Data: data}, "10", "10", "3.2 = 10"},
		{api.Entry{Kind: 3, Version: least, Client: -1, Seq: greatest, Data: next}, "none", "10", "3.2 = 10"}, // whose it is plays no part
	})
}

func TestClients(t *testing.T) {
	x := made(t, adder)
	for _, client := range []int{least, -2, -1, 16, 17, 31, 256, greatest} {
		for _, seq := range []int{least, 0, 1, 1 << 40, greatest} {
			e := do("0.1v1 add(1)")
			e.Client, e.Seq = client, seq
			wantHistory(t, x, []step{{e, "ErrArg", "0", ""}})
			e.Version = 2 // this is told only behind it
			wantHistory(t, x, []step{{e, "ErrArg", "0", ""}})
		}
	}
	wantHistory(t, x, []step{
		{do("15.3v1 add(1)"), "1", "1", "15.3 = 1"},
		{do("0.9v1 add(2)"), "3", "3", "0.9 = 3, 15.3 = 1"},
		{do("7.1v1 add(3)"), "6", "6", "0.9 = 3, 7.1 = 6, 15.3 = 1"},
		{do("8.1v1 add(4)"), "10", "10", "0.9 = 3, 7.1 = 6, 8.1 = 10, 15.3 = 1"},
		{do("0.10v1 add(5)"), "15", "15", "0.10 = 15, 7.1 = 6, 8.1 = 10, 15.3 = 1"},
		{do("15.3v1 add(1)"), "1", "15", "0.10 = 15, 7.1 = 6, 8.1 = 10, 15.3 = 1"},
		{do("15.4v1 add(1)"), "16", "16", "0.10 = 15, 7.1 = 6, 8.1 = 10, 15.4 = 16"},
		{do("7.1v1 add(3)"), "6", "16", "0.10 = 15, 7.1 = 6, 8.1 = 10, 15.4 = 16"},
	})
	// all sixteen, in whichever order they come
	all, told := made(t, adder), [16]string{}
	for i, client := range newRand(1).Perm(16) {
		told[client] = fmt.Sprintf("%d.%d = %d", client, client+1, i+1)
		all.apply(t, do(fmt.Sprintf("%d.%dv1 add(1)", client, client+1)))
	}
	if got, want := tellSessions(all.b.Data().Sessions), strings.Join(told[:], ", "); got != want {
		t.Errorf("%s; not %s", got, want)
	}
}

func TestSeqs(t *testing.T) {
	x := made(t, adder)
	for _, seq := range []int{least, -5, -1, 0, 1<<40 + 1, 1 << 41, greatest} {
		e := do("2.1v1 add(1)")
		e.Seq = seq
		wantHistory(t, x, []step{{e, "ErrArg", "0", ""}})
	}
	wantHistory(t, x, []step{
		{do("2.1v1 add(1)"), "1", "1", "2.1 = 1"},
		{do("2.0v1 add(1)"), "ErrArg", "1", "2.1 = 1"}, // though it is below
		{do("2.-1v1 add(1)"), "ErrArg", "1", "2.1 = 1"},
		{do("2.2v1 add(1)"), "2", "2", "2.2 = 2"},
		{do("2.9v1 add(1)"), "3", "3", "2.9 = 3"},
		{do("2.8v1 add(1)"), "ErrOld", "3", "2.9 = 3"},
		{do("2.2v1 add(1)"), "ErrOld", "3", "2.9 = 3"},
		{do("2.1v2 none()"), "ErrOld", "3", "2.9 = 3"}, // whatever else is wrong
		{do("2.9v1 add(1)"), "3", "3", "2.9 = 3"},
		{do("2.9v1 add(7)"), "3", "3", "2.9 = 3"}, // whatever it says
		{do("2.9v7 none()"), "3", "3", "2.9 = 3"},
		{raw(2, 9, "\xff"), "3", "3", "2.9 = 3"},
		{do("2.10v2 add(1)"), "ErrStale", "3", "2.9 = 3"},
		{do("2.10v1 add(1)"), "4", "4", "2.10 = 4"}, // what was refused so isn't in the session
		{do("2.1099511627776v1 add(1)"), "5", "5", "2.1099511627776 = 5"},
		{do("2.1099511627776v1 add(1)"), "5", "5", "2.1099511627776 = 5"},
		{do("2.1099511627777v1 add(1)"), "ErrArg", "5", "2.1099511627776 = 5"},
		{do("2.1099511627775v1 add(1)"), "ErrOld", "5", "2.1099511627776 = 5"},
		{do("1.1099511627776v1 add(1)"), "6", "6", "1.1099511627776 = 6, 2.1099511627776 = 5"},
	})
}

func TestVersions(t *testing.T) {
	for _, version := range []int{1, 2, 127, 1 << 40} {
		x := made(t, strings.Replace(adder, "1", fmt.Sprint(version), 1))
		for i, other := range []int{least, -1, 0, version - 1, version + 1, version + 256, greatest} {
			e := do("4.5v1 add(1)")
			e.Version = other
			wantHistory(t, x, []step{{e, "ErrStale", fmt.Sprint(i), strings.Repeat(fmt.Sprintf("1.%d = %d", i, i), min(i, 1))}})
			e.Version, e.Client, e.Seq = version, 1, i+1
			wantHistory(t, x, []step{{e, fmt.Sprint(i + 1), fmt.Sprint(i + 1), fmt.Sprintf("1.%d = %d", i+1, i+1)}})
			e.Version = other
			wantHistory(t, x, []step{{e, fmt.Sprint(i + 1), fmt.Sprint(i + 1), fmt.Sprintf("1.%d = %d", i+1, i+1)}}) // it was done
		}
	}
}

// Commands that end in each way: each of them is the session from then on.
func TestCommands(t *testing.T) {
	long := strings.Repeat("a", 256)
	x := made(t, wide)
	for i, c := range []struct{ call, told, states string }{
		{"add(5)", "5", `5, "", [], {}`},
		{"div(0)", "ErrZero", `5, "", [], {}`},
		{"div(1)", "1", `7, "", [], {}`},
		{"at(\"k\")", "ErrKey", `7, "", [], {}`},
		{`put("k", [1, 2])`, `{"k": [1, 2]}`, `7, "", [], {"k": [1, 2]}`},
		{`at("k")`, "[1, 2]", `8, "", [], {"k": [1, 2]}`},
		{`put("", [])`, `{"": [], "k": [1, 2]}`, `8, "", [], {"": [], "k": [1, 2]}`},
		{`say("x")`, `"x"`, `8, "x", [], {"": [], "k": [1, 2]}`},
		{`say("` + long + `")`, "ErrSize", `8, "x", [], {"": [], "k": [1, 2]}`},
		{`keep("y")`, `["y"]`, `8, "x", ["y"], {"": [], "k": [1, 2]}`},
		{"is(true)", "false", `8, "x", ["y"], {"": [], "k": [1, 2]}`},
		{"none()", "0", `8, "x", ["y"], {"": [], "k": [1, 2]}`},
		{"add(9223372036854775807)", "ErrOver", `8, "x", ["y"], {"": [], "k": [1, 2]}`},
		{"spin(4097)", "ErrFuel", `8, "x", ["y"], {"": [], "k": [1, 2]}`},
		{"spin(9223372036854775807)", "ErrFuel", `8, "x", ["y"], {"": [], "k": [1, 2]}`},
		{"spin(4096)", "4104", `4104, "x", ["y"], {"": [], "k": [1, 2]}`}, // each command has its own fuel
		{"spin(4096)", "8200", `8200, "x", ["y"], {"": [], "k": [1, 2]}`},
	} {
		e, people := do(fmt.Sprintf("6.%dv1 %s", i+1, c.call)), fmt.Sprintf("6.%d = %s", i+1, c.told)
		wantHistory(t, x, []step{{e, c.told, c.states, people}, {e, c.told, c.states, people}})
	}
}

// Bytes that are no command.
func TestNoCommand(t *testing.T) {
	right := do("1.1v1 add(5)").Data
	list := []string{
		"", "\x00", "\x03add", "\x03add\x02\x00", "\x03add\x02\x00\x05\x00", "\x03add\x02\x00\x05\x02\x00\x05", "\x03add\x01\x05", "\x03add\x83\x00\x00\x05", "\x83\x00add\x02\x00\x05", "\x03add\x02\x02\x05", "\x03add\x00", "\xff", adder,
		do("1.1v1 add(true)").Data, do("1.1v1 add()").Data, do("1.1v1 add(1, 2)").Data, do(`1.1v1 add("ab")`).Data, do("1.1v1 ad(1)").Data, do("1.1v1 adds(1)").Data, do("1.1v1 in()").Data, do("1.1v1 upgrade()").Data, right + right, strings.Repeat("a", 70000),
	}
	for i := range right {
		list = append(list, right[:i])
	}
	for i, data := range list {
		x := made(t, wide)
		people := fmt.Sprintf("3.%d = ErrCommand", i+2)
		wantHistory(t, x, []step{
			{do("3.1v1 add(5)"), "5", `5, "", [], {}`, "3.1 = 5"},
			{raw(3, i+2, data), "ErrCommand", `5, "", [], {}`, people},
			{raw(3, i+2, data), "ErrCommand", `5, "", [], {}`, people},
			{raw(3, i+2, right), "ErrCommand", `5, "", [], {}`, people}, // that number is used up
			{raw(3, i+1, right), "ErrOld", `5, "", [], {}`, people},
			{raw(3, i+3, right), "10", `10, "", [], {}`, fmt.Sprintf("3.%d = 10", i+3)},
		})
	}
	// longer than what can stand in a log, but a command all the same
	x := made(t, "version 1; state n: int; on f(a: [text], b: [text]): int { set n = len(a) + len(b); ret n; }")
	l := words(63, strings.Repeat("t", 250))
	e := raw(1, 1, plainCommand("f", l, l))
	if Valid(e) {
		t.Error(len(e.Data))
	}
	wantHistory(t, x, []step{{e, "126", "126", "1.1 = 126"}})
}

// words answers a list of so many times one text.
func words(n int, s string) api.Value { return list(slices.Repeat([]api.Value{word(s)}, n)...) }

// Upgrades.

func TestRefusedUpgrades(t *testing.T) {
	x := made(t, wide)
	const states, people = `5, "a", ["b"], {}`, `2.1 = 5, 3.1 = "a", 4.7 = ["b"], 5.1 = ErrZero`
	for _, s := range []string{"2.1v1 add(5)", `3.1v1 say("a")`, `4.7v1 keep("b")`, "5.1v1 div(0)"} {
		x.apply(t, do(s))
	}
	refused := func(src string, want api.Errno) {
		t.Helper()
		wantHistory(t, x, []step{{upgradeTo(src), errorName(want), states, people}, {do("2.1v1 add(5)"), "5", states, people}})
	}
	for s, e := range faults {
		refused(strings.Replace(s, "@", "", 1), e)
		refused(strings.Replace(strings.Replace(s, "version 1", "version 2", 1), "@", "", 1), e)
	}
	both := "state n: int; state t: text; state l: [text]; "
	for _, src := range []string{wide, "version 1;", "version 1; " + both, "version 3; " + both, "version 3; on upgrade(): int { ret 1 / 0; }", "version 1099511627776;", "version 4; on upgrade(): int { ret 5; }"} {
		refused(src, api.ErrVersion)
	}
	for body, e := range map[string]api.Errno{
		"set n = 6; ret 1 / 0;": api.ErrZero, "set n = 6; set n = n + 9223372036854775807; ret n;": api.ErrOver, "set l[1] = t;": api.ErrKey, `set t = "` + strings.Repeat("a", 256) + `" + t;`: api.ErrSize, "for i to 4097 { set n = n + 1; }": api.ErrFuel,
	} {
		refused("version 2; "+both+"on upgrade(): int { "+body+" }", e)
	}
}

func TestUpgrades(t *testing.T) {
	x := made(t, wide)
	wantHistory(t, x, []step{
		{do("2.1v1 add(5)"), "5", `5, "", [], {}`, "2.1 = 5"},
		{do("3.2v1 div(0)"), "ErrZero", `5, "", [], {}`, "2.1 = 5, 3.2 = ErrZero"},
		{do(`4.1v1 put("k", [1])`), `{"k": [1]}`, `5, "", [], {"k": [1]}`, `2.1 = 5, 3.2 = ErrZero, 4.1 = {"k": [1]}`},
	})
	const people = `2.1 = 5, 3.2 = ErrZero, 4.1 = {"k": [1]}`
	second := `version 2; state m: {text:[int]}; state n: int; state t: [text]; on upgrade(): [int] { set n = n * 10; ret push(m["k"], n); } on add(x: int): int { set n = n - x; ret n; } # a note`
	third := `version 3; state n: int; on upgrade(): int { for i to 4096 { set n = n + 1; } ret n; }`
	fourth := `version 4; state k: int; on upgrade(x: int): int { ret 1 / 0; }`
	wantHistory(t, x, []step{
		{upgradeTo(second), "[1, 50]", `{"k": [1]}, 50, []`, people},
		{do("2.1v1 add(5)"), "5", `{"k": [1]}, 50, []`, people}, // what was done ahead of it is answered again
		{do("2.1v2 add(5)"), "5", `{"k": [1]}, 50, []`, people},
		{do("4.1v1 none()"), `{"k": [1]}`, `{"k": [1]}, 50, []`, people},
		{do("3.1v2 add(5)"), "ErrOld", `{"k": [1]}, 50, []`, people},
		{do("2.2v1 add(5)"), "ErrStale", `{"k": [1]}, 50, []`, people}, // a command of the old version
		{do("9.1v1 add(5)"), "ErrStale", `{"k": [1]}, 50, []`, people},
		{do("2.2v3 add(5)"), "ErrStale", `{"k": [1]}, 50, []`, people},
		{do("2.2v2 add(5)"), "45", `{"k": [1]}, 45, []`, strings.Replace(people, "2.1 = 5", "2.2 = 45", 1)}, // and one of the new
		{do("2.3v2 div(0)"), "ErrCommand", `{"k": [1]}, 45, []`, strings.Replace(people, "2.1 = 5", "2.3 = ErrCommand", 1)},
		{upgradeTo(second), "ErrVersion", `{"k": [1]}, 45, []`, strings.Replace(people, "2.1 = 5", "2.3 = ErrCommand", 1)},
		{upgradeTo(wide), "ErrVersion", `{"k": [1]}, 45, []`, strings.Replace(people, "2.1 = 5", "2.3 = ErrCommand", 1)},
		{upgradeTo(third), "4141", "4141", strings.Replace(people, "2.1 = 5", "2.3 = ErrCommand", 1)},
		{upgradeTo(fourth), "none", "0", strings.Replace(people, "2.1 = 5", "2.3 = ErrCommand", 1)},
		{do("4.1v1 none()"), `{"k": [1]}`, "0", strings.Replace(people, "2.1 = 5", "2.3 = ErrCommand", 1)},
	})
	if x.b.Data().Source != fourth || x.b.Version() != 4 || x.b.Machine().Version() != 4 || !x.b.Machine().Has("upgrade", "int") {
		t.Errorf("%.100s, %d", x.b.Data().Source, x.b.Version())
	}
}

// A nil book, all of whose calls answer.
func TestNil(t *testing.T) {
	var b *Book
	if d := b.Data(); d.Source != "" || len(d.States) != 0 || len(d.Sessions) != 0 {
		t.Errorf("Data: %+v", d)
	}
	if b.Copy() != nil || b.Machine() != nil || b.Version() != 0 {
		t.Error("Copy, Machine, Version")
	}
	if x, e := b.Encode(); len(x) != 0 || e != api.ErrNil {
		t.Errorf("Encode: %x, %d", x, e)
	}
	for _, e := range []api.Entry{{}, {Kind: 1}, do("3.1v1 add(5)"), do("16.0v0 add(5)"), upgradeTo(adder), upgradeTo(""), {Kind: 4}, {Kind: -1}} {
		if r := b.Apply(e); told(r) != "ErrNil" {
			t.Errorf("%s: %s", named(e), told(r))
		}
	}
}

// Entries as bytes.

var entries = []struct {
	e   api.Entry
	hex string
}{
	{api.Entry{Kind: 1}, "01 00 00 00 00"},
	{api.Entry{Kind: 2, Version: 1, Client: 3, Seq: 4, Data: "ab"}, "02 01 03 04 02 6162"},
	{do("3.1v1 add(5)"), "02 01 03 01 07 03616464020005"},
	{api.Entry{Kind: 3, Data: "version 1;"}, "03 00 00 00 0a 76657273696f6e20313b"},
	{api.Entry{Kind: 1, Version: 127, Client: 128, Seq: 300, Data: "\x00"}, "01 7f 8001 ac02 01 00"},
	{api.Entry{Kind: 2, Version: 1 << 40, Client: 15, Seq: 1 << 40, Data: "\xff\xfe"}, "02 808080808020 0f 808080808020 02 fffe"},
	{api.Entry{Kind: 2, Version: greatest, Client: greatest, Seq: greatest}, "02 ffffffffffffffff7f ffffffffffffffff7f ffffffffffffffff7f 00"},
	{api.Entry{Kind: 2, Seq: 1, Data: strings.Repeat("a", 128)}, "02 00 00 01 8001" + strings.Repeat("61", 128)},
	{api.Entry{Kind: 3, Version: 2, Data: strings.Repeat("b", 16384)}, "03 02 00 00 808001" + strings.Repeat("62", 16384)},
}

func TestEntries(t *testing.T) {
	for _, c := range entries {
		b, e := Entry(c.e)
		if !Valid(c.e) || !bytes.Equal(b, unhex(c.hex)) || e != api.OK {
			t.Errorf("%s: %.200x, %d; not %.200s", named(c.e), b, e, c.hex)
		}
		if back, e := ReadEntry(unhex(c.hex)); back != c.e || e != api.OK {
			t.Errorf("%.200s: %s, %d", c.hex, named(back), e)
		}
	}
}

// Entries that can't stand in a log: each number below 0 or beside the kinds, too many bytes, and these together.
func TestNoEntries(t *testing.T) {
	long := strings.Repeat("a", 16385)
	for _, kind := range []int{least, -1, 0, 1, 2, 3, 4, 5, 257, greatest} {
		for _, version := range []int{least, -1, 0, 1, greatest} {
			for _, client := range []int{least, -1, 0, 15, 16, greatest} {
				for _, seq := range []int{least, -1, 0, 1, 1<<40 + 1, greatest} {
					for _, data := range []string{"", "a", long[1:], long, long + long} {
						wantEntry(t, api.Entry{Kind: kind, Version: version, Client: client, Seq: seq, Data: data})
					}
				}
			}
		}
	}
	for _, e := range []api.Entry{{}, {Kind: 4}, {Kind: -1}, {Kind: 1, Version: -1}, {Kind: 2, Client: -1}, {Kind: 3, Seq: -1}, {Kind: 1, Data: long}, {Kind: 2, Version: least, Client: least, Seq: least}} {
		if b, wrong := Entry(e); Valid(e) || len(b) != 0 || wrong != api.ErrArg {
			t.Errorf("%s: %v, %.100x, %d", named(e), Valid(e), b, wrong)
		}
	}
}

// wantEntry asks what Valid and Entry answer, and that ReadEntry goes the way back.
func wantEntry(t *testing.T, e api.Entry) {
	t.Helper()
	b, wrong := Entry(e)
	if want, wanted := plainEntry(e); !bytes.Equal(b, want) || wrong != wanted || Valid(e) != (wanted == api.OK) {
		t.Fatalf("%s: %v, %.300x, %d; not %.300x, %d", named(e), Valid(e), b, wrong, want, wanted)
	}
	if wrong != api.OK {
		return
	}
	if back, wrong := ReadEntry(b); back != e || wrong != api.OK {
		t.Fatalf("%s: %.300x: %s, %d", named(e), b, named(back), wrong)
	}
}

// wantRead asks what ReadEntry answers, and that Entry goes the way back; and tells whether it is an entry.
func wantRead(t *testing.T, b []byte) bool {
	t.Helper()
	e, wrong := ReadEntry(b)
	if want, wanted := plainReadEntry(b); e != want || wrong != wanted {
		t.Fatalf("%.300x: %s, %d; not %s, %d", b, named(e), wrong, named(want), wanted)
	}
	if wrong != api.OK {
		return false
	}
	if back, wrong := Entry(e); !bytes.Equal(back, b) || wrong != api.OK || !Valid(e) {
		t.Fatalf("%.300x: %s: %.300x, %d", b, named(e), back, wrong)
	}
	return true
}

func wantNoEntry(t *testing.T, b []byte) {
	t.Helper()
	if e, wrong := ReadEntry(b); e != (api.Entry{}) || wrong != api.ErrForm {
		t.Errorf("%.300x: %s, %s", b, named(e), errorName(wrong))
	}
}

func TestSpoiledEntries(t *testing.T) {
	for _, c := range entries[:len(entries)-1] {
		b := unhex(c.hex)
		for i := range b {
			wantNoEntry(t, b[:i:i])
			wantNoEntry(t, b[:i])
			for x := range 256 {
				other := slices.Clone(b)
				other[i] = byte(x)
				wantRead(t, other)
			}
			wantRead(t, slices.Insert(slices.Clone(b), i, 0))
			wantRead(t, slices.Insert(slices.Clone(b), i, b[i]))
			wantRead(t, slices.Delete(slices.Clone(b), i, i+1))
		}
		for x := range 256 {
			wantNoEntry(t, append(slices.Clone(b), byte(x)))
		}
		wantNoEntry(t, slices.Concat(b, b))
	}
	great := unhex(entries[len(entries)-1].hex)
	for i := range great {
		wantNoEntry(t, great[:i])
	}
	wantNoEntry(t, append(slices.Clone(great), 0))
	for _, s := range []string{
		"", "00 00 00 00 00", "04 00 00 00 00", "05 00 00 00 00", "8101 00 00 00 00", "ffffffffffffffff7f 00 00 00 00", "01", "01 00", "01 00 00", "01 00 00 00", "01 00 00 00 00 00", "01 00 00 00 01", "01 00 00 00 02 61", "01 00 00 00 01 6161",
		// numbers that aren't in their shortest form, that never end, that are too great
		"8100 00 00 00 00", "01 8000 00 00 00", "01 00 8000 00 00", "01 00 00 8000 00", "01 00 00 00 8000", "01 00 00 00 8100 61", "01 818000 00 00 00", "01 00 00 00 80", "01 80", "01 00 00 80", "01 ffffffffffffffffff 00 00 00", "01 00 ffffffffffffffffff01 00 00", "01 00 00 80808080808080808000 00",
		// more bytes than there are, and than there may be
		"01 00 00 00 ffffffffffffffff7f", "01 00 00 00 ffffffffffffffff7f 61", "03 00 00 00 818001" + strings.Repeat("62", 16385), "03 00 00 00 808002" + strings.Repeat("62", 32768), "03 00 00 00 808001" + strings.Repeat("62", 16385), "03 00 00 00 808001" + strings.Repeat("62", 16383), "00 00 00 00 808001" + strings.Repeat("62", 16384),
	} {
		wantNoEntry(t, unhex(s))
	}
}

// All short bytes.
func TestShortEntries(t *testing.T) {
	are := 0
	var try func(b []byte)
	try = func(b []byte) {
		if wantRead(t, b) {
			are++
		}
		if len(b) < 7 {
			for _, x := range []byte{0, 1, 2, 3, 4, 0x80, 'a'} {
				try(append(b[:len(b):len(b)], x))
			}
		}
	}
	try(nil)
	if are < 2000 {
		t.Error(are)
	}
}

// Books as bytes.

const (
	small      = "version 1; state n: int;"
	smallHex   = "18 76657273696f6e20313b207374617465206e3a20696e743b "
	smallImage = "0d 01 08 6e3a20696e743b0a 02 0005 "
	empty      = "version 1;"
	emptyHex   = "0a 76657273696f6e20313b 02 01 00 "
)

// wantBook asks what Decode answers; where it is a book, that Encode makes the bytes of it; and tells the error.
func wantBook(t *testing.T, x []byte) api.Errno {
	t.Helper()
	b, e := Decode(x)
	want, wanted := plainDecode(x)
	if e != wanted || (b != nil) != (e == api.OK) || tell(b.Data()) != tell(want) {
		t.Fatalf("%.300x: %.500s, %s; not %.500s, %s", x, tell(b.Data()), errorName(e), tell(want), errorName(wanted))
	}
	if e != api.OK {
		return e
	}
	if back, e := b.Encode(); !bytes.Equal(back, x) || e != api.OK {
		t.Fatalf("%.300x: %.300x, %d", x, back, e)
	}
	return e
}

func TestBookBytes(t *testing.T) {
	b, _, _ := New(empty)
	for hex, b := range map[string]*Book{
		emptyHex + "00":                                        b,
		emptyHex + "01 03 05 37 01 00":                         applied(b.Copy(), raw(3, 5, "")),
		emptyHex + "02 03 05 37 01 00 0f 80808080802037 01 00": applied(b.Copy(), raw(15, 1<<40, "a"), raw(3, 5, "")),
	} {
		if x, e := b.Encode(); !bytes.Equal(x, unhex(hex)) || e != api.OK {
			t.Errorf("%x, %d; not %s", x, e, hex)
		}
		if e := wantBook(t, unhex(hex)); e != api.OK {
			t.Errorf("%s: %s", hex, errorName(e))
		}
	}
	x := made(t, wide)
	for _, s := range []string{"0.1v1 add(-129)", "1.300v1 div(0)", `2.1v1 say("ab")`, `3.1v1 keep("c")`, "4.1v1 is(false)", `5.1v1 put("k", [1, -1])`, "9.1v1 spin(4097)"} {
		x.apply(t, do(s))
	}
	schema := "n: int;\nt: text;\nl: [text];\nm: {text:[int]};\n"
	states := fmt.Sprintf("01 %02x %x 03 018001 03 026162 03 010163 08 01016b 02 0001 0100", len(schema), schema)
	sessions := "07 00 01 00 04 01018001 01 ac02 33 01 00 02 01 00 04 03026162 03 01 00 05 0401030163 04 01 00 02 0201 05 01 00 0d 0502 03016b 0402 010001 010100 09 01 36 01 00"
	want := slices.Concat(counts(nil, wide), counts(nil, unhex(states)), unhex(sessions))
	if got, e := x.b.Encode(); !bytes.Equal(got, want) || e != api.OK {
		t.Errorf("%x, %d; not %x", got, e, want)
	}
	if e := wantBook(t, want); e != api.OK {
		t.Error(errorName(e))
	}
}

// Bytes of which something is wrong, part by part.
func TestOtherBooks(t *testing.T) {
	const head = smallHex + smallImage
	sessions := func(l ...string) string { return head + fmt.Sprintf("%02x ", len(l)) + strings.Join(l, " ") }
	var everyone, tooMany []string
	for i := range 17 {
		tooMany = append(tooMany, fmt.Sprintf("%02x 01 00 03 010005", i))
	}
	everyone = tooMany[:16]
	broken := fmt.Sprintf("%02x %x ", len("version 1; state n: num;"), "version 1; state n: num;")
	for want, list := range map[api.Errno][]string{
		api.OK: {
			sessions(), sessions("00 01 00 03 010005"), sessions("0f 808080808020 00 02 0201"), sessions("00 01 00 01 00", "0f 01 33 01 00"), sessions(everyone...), sessions("03 01 00 02 0207", "04 01 00 03 040100"),
			sessions("03 01 7f 01 00"), sessions("03 01 ffffffffffffffff7f 01 00"), sessions("03 01 33 03 010005"), sessions("03 01 00 33" + strings.Repeat("0401", 24) + "010005"),
			"18 76657273696f6e20313b207374617465206e3a20696e743b 15 01 08 6e3a20696e743b0a 0a 01ffffffffffffffff7f 00",
		},
		api.ErrForm: {
			"", "00", "00 00", "18", smallHex, head, smallHex + "00", smallHex + "0d 01", smallHex + "7f" + smallImage, "19" + smallHex[2:] + smallImage + "00", "17" + smallHex[2:] + smallImage + "00", "ffffffffffffffff7f" + smallHex, "9800" + smallHex[2:] + smallImage + "00", smallHex + "8d00" + smallImage[2:] + "00",
			head + "8000", head + "80", head + "00 00", head + "01", head + "02", head + "ffffffffffffffff7f", head + "ffffffffffffffffff", head + "00 03 01 00 03 010005",
			head + "02 03 01 00 03 010005", head + "01 03 01 00 03 010005 04 01 00 03 010005", head + "ffffffffffffffff7f 03 01 00 03 010005",
			// clients that don't rise, and that there aren't
			sessions("03 01 00 03 010005", "03 02 00 03 010005"), sessions("03 01 00 03 010005", "02 01 00 03 010005"), sessions("03 01 00 03 010005", "00 01 00 03 010005"), sessions("00 01 00 03 010005", "00 01 00 03 010005"), sessions("03 01 00 03 010005", "05 01 00 03 010005", "04 01 00 03 010005"),
			sessions("10 01 00 03 010005"), sessions("11 01 00 03 010005"), sessions("ffffffffffffffff7f 01 00 03 010005"), sessions(tooMany...), sessions("8300 01 00 03 010005"), sessions("0f 01 00 03 010005", "10 01 00 03 010005"),
			// Seqs
			sessions("03 00 00 03 010005"), sessions("03 818080808020 00 03 010005"), sessions("03 ffffffffffffffff7f 00 03 010005"), sessions("03 8100 00 03 010005"), sessions("03 8000 00 03 010005"),
			// Errs and values
			sessions("03 01 8000 03 010005"), sessions("03 01 80 03 010005"), sessions("03 01 ffffffffffffffffff 03 010005"), sessions("03 01 00 00"), sessions("03 01 33 00"), sessions("03 01 00 02 010005"), sessions("03 01 00 04 010005"), sessions("03 01 00 03 010205"), sessions("03 01 00 01 06"), sessions("03 01 00 04 01000500"),
			sessions("03 01 00 8300 010005"), sessions("03 01 00 35" + strings.Repeat("0401", 25) + "010005"), sessions("03 01 00 34" + strings.Repeat("0401", 24) + "010005"), sessions("03 01 00 03 010005", "04 01 00 03 010005", "05 01 00 03 040106"), sessions("03 01 00 03"), sessions("03 01 00"), sessions("03 01"), sessions("03"),
			// that comes ahead of what the texts say
			broken + smallImage + "01 10 01 00 03 010005", broken + smallImage, broken + "05 01", smallHex + "01 ff 00 00", smallHex + "00 01",
			// an image that is none, of a text that is one
			smallHex + "00 00", smallHex + "01 01 00", smallHex + "09 01 08 6e3a20696e743b 00", smallHex + "0c 01 08 6e3a20696e743b0a 01 00 00", smallHex + "0e 01 08 6e3a20696e743b0a 02 000500 00", smallHex + "0d 01 08 6e3a20696e743b0a 02 0205 00", smallHex + "02 01 09 00",
		},
		api.ErrSyntax: {"00 00 00", "00 02 01 00 00", broken + smallImage + "00", broken + "00 00", broken + smallImage + "01 03 01 00 03 010005"},
		api.ErrToken:  {"01 24 00 00", "0c 76657273696f6e20313b2024 02 01 00 00"},
		api.ErrVersion: {
			"0a 76657273696f6e20303b 02 00 00 00", // of the text
			smallHex + "02 01 00 00", smallHex + "0d 02 08 6e3a20696e743b0a 02 0005 00", smallHex + "0d 00 08 6e3a20696e743b0a 02 0005 00", smallHex + "0d 01 08 6d3a20696e743b0a 02 0005 00", smallHex + "0d 01 09 6e3a20626f6f6c3b0a 01 01 00",
			"0a 76657273696f6e20313b" + smallImage + "00", "0a 76657273696f6e20323b 02 01 00 00", smallHex + "02 01 00 01 03 01 00 03 010005",
		},
	} {
		for _, s := range list {
			if e := wantBook(t, unhex(s)); e != want {
				t.Errorf("%s: %s; not %s", s, errorName(e), errorName(want))
			}
		}
	}
	long := counts(nil, strings.Repeat(" ", 16385))
	if e := wantBook(t, append(long, unhex("00 00")...)); e != api.ErrLong {
		t.Error(errorName(e))
	}
}

// someBooks are such as the spoiled bytes come from.
func someBooks() []*Book {
	none, _, _ := New(empty)
	b, _, _ := New(small)
	c, _, _ := New("version 3; state t: text; state l: [int]; on say(x: text): text { set t = t + x; ret t; } on add(x: int): [int] { set l = push(l, x); ret l; }")
	list := []*Book{none, b, applied(b.Copy(), raw(3, 1, "")), applied(c.Copy(), do(`0.1v3 say("ab")`), do("7.300v3 add(-300)"), do("15.1v3 add(2)"), do("9.9v3 add(true)"))}
	d, _, _ := New(adder)
	for i := range 16 {
		d.Apply(do(fmt.Sprintf("%d.%dv1 add(%d)", i, i+1, i*20)))
	}
	return append(list, d)
}

func TestSpoiledBooks(t *testing.T) {
	seen := map[api.Errno]int{}
	for _, b := range someBooks() {
		x, _ := b.Encode()
		if wantBook(t, x) != api.OK {
			t.Fatalf("%x", x)
		}
		for i := range x {
			for _, part := range [][]byte{x[:i:i], x[:i]} {
				if b, e := Decode(part); b != nil || e != api.ErrForm {
					t.Errorf("%x: %s", part, errorName(e))
				}
			}
			for _, c := range []byte{0, 1, 2, 3, 0x10, 0x7f, 0x80, 0xff, 'a', '1', ' ', x[i] + 1, x[i] - 1, x[i] ^ 0x80, x[i] ^ 1, x[i] ^ 0x20} {
				other := slices.Clone(x)
				other[i] = c
				seen[wantBook(t, other)]++
			}
			seen[wantBook(t, slices.Insert(slices.Clone(x), i, 0))]++
			seen[wantBook(t, slices.Insert(slices.Clone(x), i, x[i]))]++
			seen[wantBook(t, slices.Delete(slices.Clone(x), i, i+1))]++
		}
		for c := range 256 {
			if b, e := Decode(append(slices.Clone(x), byte(c))); b != nil || e != api.ErrForm {
				t.Errorf("%x and %x: %s", x, c, errorName(e))
			}
		}
		if wantBook(t, slices.Concat(x, x)) != api.ErrForm {
			t.Errorf("%x twice", x)
		}
	}
	for _, e := range []api.Errno{api.OK, api.ErrForm, api.ErrVersion, api.ErrToken, api.ErrSyntax, api.ErrType} {
		if seen[e] < 10 {
			t.Errorf("%s: too few: %v", errorName(e), seen)
		}
	}
}

// The greatest books: their bytes are made, and read, in a short time.
func TestGreatBooks(t *testing.T) {
	src := "version 1; "
	for i := range 31 {
		src += fmt.Sprintf("state s%d: [text]; ", i)
	}
	for i := range 31 {
		src += fmt.Sprintf("on f%d(x: [text]): [text] { set s%d = x; ret x; } ", i, i)
	}
	x := made(t, src)
	for i := range 62 {
		e := raw(i%16, i+1, plainCommand(fmt.Sprintf("f%d", i%31), words(63, strings.Repeat("abcdefg"[i%7:i%7+1], 250))))
		if got, want := told(x.b.Apply(e)), told(x.p.apply(e)); got != want {
			t.Fatalf("%.300s; not %.300s", got, want)
		}
	}
	x.same(t)
	b, e := x.b.Encode()
	if len(b) < 700000 || e != api.OK || !bytes.Equal(b, x.p.encode()) || wantBook(t, b) != api.OK {
		t.Error(len(b), e)
	}
}
