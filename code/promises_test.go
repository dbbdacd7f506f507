package code

import (
	"bytes"
	"cmp"
	"slices"
	"strings"
	"testing"
	"unsafe"

	"quern/api"
)

// P13.1, by chance, against the plain model.

// wantAlike asks that all calls answer of a module what the plain model does, and tells whether it can be run.
func wantAlike(t *testing.T, m api.Module, states int) bool {
	t.Helper()
	can := plainVerify(m, states) == api.OK
	wantRun(t, "by chance", m, states, can)
	for _, v := range m.Consts {
		if Type(v) != plainType(v) {
			t.Errorf("%s: %q", told(v), Type(v))
		}
	}
	if t.Failed() {
		t.FailNow()
	}
	return can
}

func TestRandomModules(t *testing.T) {
	k := maker{r: newRand(1)}
	used, jumps := map[int]int{}, 0
	for range 4000 {
		m, states := k.module()
		if !wantAlike(t, m, states) {
			t.Fatalf("it can't be run: %s", told(m))
		}
		for _, f := range m.Funcs {
			for at, in := range f.Code {
				used[in.Op]++
				if rows[in.Op-1].a == "place" && in.A <= at {
					jumps++
				}
			}
		}
	}
	for _, x := range rows {
		if used[x.op] < 200 {
			t.Errorf("%s: too seldom: %d", x.name, used[x.op])
		}
	}
	if jumps < 200 {
		t.Error("too few jumps back: ", jumps)
	}
}

func TestSpoiledModules(t *testing.T) {
	k := maker{r: newRand(2)}
	fine, spoiled := 0, 0
	for range 30000 {
		m, states := k.module()
		for range 1 + k.r.IntN(2) {
			k.spoil(&m)
		}
		if k.r.IntN(5) == 0 {
			k.turn(&states)
		}
		if wantAlike(t, m, states) {
			fine++
		} else {
			spoiled++
		}
	}
	if fine < 3000 || spoiled < 10000 {
		t.Error("too few of one kind: ", fine, spoiled)
	}
}

// All code there is of up to three instructions, of the Ops that go on in ways of their own.
func TestAllShortCode(t *testing.T) {
	var all []api.Instr
	for _, name := range []string{"Const", "Pop", "Jump", "Unless", "Ret", "Binary", "Call"} {
		for a := range 4 {
			if x := named(name); x.a == "place" || a == 0 || x.a == "operator" && a == 3 {
				all = append(all, api.Instr{Op: x.op, A: a})
			}
		}
	}
	var codes [][]api.Instr
	for _, a := range all {
		codes = append(codes, []api.Instr{a})
		for _, b := range all {
			codes = append(codes, []api.Instr{a, b})
			for _, c := range all {
				codes = append(codes, []api.Instr{a, b, c}, []api.Instr{{Op: Const}, a, b, c, {Op: Const}, {Op: Ret}})
			}
		}
	}
	fine := 0
	for _, code := range codes {
		for stack := 1; stack < 4; stack++ {
			m := consts(number(1))
			m.Funcs = []api.Func{{Params: 1, Locals: 1, Stack: 1, Code: asm("Load; Ret")}, {Stack: stack, Code: code}}
			if wantAlike(t, m, 0) {
				fine++
			}
		}
	}
	if fine < 100 {
		t.Error("too few can be run: ", fine)
	}
}

// P13.2

// wantReadAlike asks that bytes are read as the plain model reads them, and what is read is written as they are.
func wantReadAlike(t *testing.T, b []byte, states int) api.Errno {
	t.Helper()
	m, e := Decode(b, states)
	want, err := plainDecode(b, states)
	if !same(m, want) || e != err {
		t.Fatalf("Decode of %x, %d: %s, %d; not %s, %d", b, states, told(m), e, told(want), err)
	}
	if e != api.OK {
		return e
	}
	if back, e := Encode(m, states); !bytes.Equal(back, b) || e != api.OK {
		t.Fatalf("Decode of %x: %s; Encode of that: %x, %d", b, told(m), back, e)
	}
	return e
}

// wantThereAndBack asks that a module's bytes are read as it, and none that are nearly those are read as a module.
func wantThereAndBack(t *testing.T, m api.Module, states int) {
	t.Helper()
	b, e := Encode(m, states)
	if e != api.OK {
		t.Fatalf("Encode of %s: %d", told(m), e)
	}
	if back, e := Decode(b, states); !same(back, m) || e != api.OK {
		t.Fatalf("%s, there and back: %s, %d", told(m), told(back), e)
	}
	for n := range b {
		wantForm(t, b[:n], states)
	}
	for _, more := range []byte{0, 1, 128, 255} {
		wantForm(t, append(slices.Clone(b), more), states)
	}
}

func wantForm(t *testing.T, b []byte, states int) {
	t.Helper()
	if m, e := Decode(b, states); !same(m, api.Module{}) || e != api.ErrForm {
		t.Fatalf("Decode of %x: %s, %d", b, told(m), e)
	}
}

func TestThereAndBack(t *testing.T) {
	k := maker{r: newRand(3)}
	wantThereAndBack(t, api.Module{}, 0)
	for _, c := range constCases {
		if c.want != "" {
			wantThereAndBack(t, consts(c.v), 0)
		}
	}
	for range 300 {
		m, states := k.module()
		wantThereAndBack(t, m, states)
	}
}

// Of what can't be run the bytes' form comes first: with each beginning ErrForm, whole ErrCode.
func TestFormFirst(t *testing.T) {
	k := maker{r: newRand(4)}
	seen := 0
	for range 2000 {
		m, states := k.module()
		k.spoil(&m)
		if plainVerify(m, states) == api.OK || !hasBytes(m) {
			continue
		}
		seen++
		b := plainBytes(m)
		for n := range b {
			wantForm(t, b[:n], states)
		}
		wantForm(t, append(slices.Clone(b), 0), states)
		if e := wantReadAlike(t, b, states); e != api.ErrCode {
			t.Fatalf("%x: %d", b, e)
		}
	}
	if seen < 500 {
		t.Error("too few: ", seen)
	}
}

// Each number of a module's bytes in a longer form than it needs.
func TestLongNumbers(t *testing.T) {
	k := maker{r: newRand(5)}
	for range 200 {
		m, states := k.module()
		m.Consts = slices.DeleteFunc(m.Consts, func(v api.Value) bool { return v.Kind == 3 }) // a text's bytes are no numbers
		b := plainBytes(m)
		for at, c := range b {
			if c < 128 {
				long := slices.Concat(b[:at], []byte{c + 128, 0}, b[at+1:])
				wantForm(t, long, states)
			}
		}
	}
}

// What is ahead of a number may be 0 or 1 alone; what can't be run is told first.
func TestOtherBytes(t *testing.T) {
	k := maker{r: newRand(6)}
	seen := map[api.Errno]int{}
	for range 3000 {
		m, states := k.module()
		if k.r.IntN(2) == 0 {
			k.spoil(&m)
		}
		if !hasBytes(m) {
			continue
		}
		at := slices.IndexFunc(m.Consts, func(v api.Value) bool { return v.Kind == 1 })
		if at < 0 {
			continue
		}
		ahead := len(plainBytes(consts(m.Consts[:at]...))) + 1
		b := plainBytes(m)
		if m.Consts[at].Num < 0 {
			continue
		}
		if b[ahead] != 0 {
			t.Fatalf("%x: no 0 at %d", b, ahead)
		}
		for _, x := range []byte{0, 1, 2, 3, 77, 127} {
			b[ahead] = x
			seen[wantReadAlike(t, b, states)]++
		}
	}
	if seen[api.OK] < 500 || seen[api.ErrForm] < 1000 || seen[api.ErrCode] < 500 {
		t.Error("too seldom: ", seen)
	}
}

func TestRandomBytes(t *testing.T) {
	k := maker{r: newRand(7)}
	seen := map[api.Errno]int{}
	for range 60000 {
		b := make([]byte, k.r.IntN(18))
		for i := range b {
			b[i] = pick(k.r, []byte{0, 0, 0, 1, 1, 1, 2, 2, 3, 4, 5, 7, 10, 12, 21, 22, 33, 127, 128, 255})
		}
		seen[wantReadAlike(t, b, k.r.IntN(3))]++
	}
	for range 20000 {
		m, states := k.module()
		b := plainBytes(m)
		for range 1 + k.r.IntN(2) {
			switch i := k.r.IntN(len(b) + 1); {
			case i == len(b) || k.r.IntN(3) == 0:
				b = slices.Insert(b, i, byte(k.r.IntN(256)))
			case k.r.IntN(3) == 0:
				b = slices.Delete(b, i, i+1)
			default:
				b[i] = pick(k.r, []byte{0, 1, 2, 3, 4, 5, 8, 9, 14, 32, 33, 127, 128, 129, 255, b[i] + 1, b[i] - 1})
			}
		}
		seen[wantReadAlike(t, b, states)]++
	}
	if seen[api.OK] < 1000 || seen[api.ErrForm] < 1000 || seen[api.ErrCode] < 1000 {
		t.Error("too seldom: ", seen)
	}
}

// Of unlike modules the bytes are unlike.
func TestBytesTellModules(t *testing.T) {
	k := maker{r: newRand(8)}
	seen := map[string]api.Module{}
	for range 3000 {
		m, states := k.module()
		b, _ := Encode(m, states)
		if other, is := seen[string(b)]; is && !same(m, other) {
			t.Fatalf("%s and %s have the same bytes: %x", told(m), told(other), b)
		}
		seen[string(b)] = m
	}
}

// P13.3

func TestMoreStatesFewerFunctions(t *testing.T) {
	k := maker{r: newRand(9)}
	less := 0
	for range 1500 {
		m, states := k.module()
		if k.r.IntN(2) == 0 {
			k.spoil(&m)
		}
		if Verify(m, states) != api.OK {
			less++
			continue
		}
		for more := states; more <= 32; more++ {
			if e := Verify(m, more); e != api.OK {
				t.Fatalf("%s: with %d states, and not with %d: %d", told(m), states, more, e)
			}
		}
		if Verify(m, 33) != api.ErrCode {
			t.Fatalf("%s: with 33 states", told(m))
		}
		first, _ := Encode(m, states)
		if last, e := Encode(m, 32); !bytes.Equal(last, first) || e != api.OK {
			t.Fatalf("%x; with more states %x, %d", first, last, e)
		}
		for n := range m.Funcs {
			without := api.Module{Consts: m.Consts, Funcs: m.Funcs[:n]}
			if e := Verify(without, states); e != api.OK {
				t.Fatalf("%s: not without those from %d on: %d", told(m), n, e)
			}
		}
	}
	if less > 1000 {
		t.Error("too few can be run")
	}
}

// P13.4

// span is the memory that something has.
type span struct{ from, to uintptr }

func listSpan[T any](l []T) span {
	var one T
	from := uintptr(unsafe.Pointer(unsafe.SliceData(l)))
	return span{from, from + uintptr(cap(l))*unsafe.Sizeof(one)}
}

// textSpan leaves out texts of one byte: the language's own memory has each of them once, and nobody can write there.
func textSpan(s string) span {
	if len(s) < 2 {
		return span{}
	}
	from := uintptr(unsafe.Pointer(unsafe.StringData(s)))
	return span{from, from + uintptr(len(s))}
}

// spans answers the memory of all lists and texts of a module.
func spans(m api.Module) []span {
	out := []span{listSpan(m.Consts), listSpan(m.Funcs)}
	for _, v := range m.Consts {
		out = append(out, textSpan(v.Text), listSpan(v.List))
	}
	for _, f := range m.Funcs {
		out = append(out, listSpan(f.Code))
	}
	return out
}

// share tells whether two of these have a byte in common.
func share(l ...span) bool {
	l = slices.DeleteFunc(slices.Clone(l), func(s span) bool { return s.from == s.to })
	slices.SortFunc(l, func(a, b span) int { return cmp.Compare(a.from, b.from) })
	for i := 1; i < len(l); i++ {
		if l[i-1].to > l[i].from {
			return true
		}
	}
	return false
}

// owner makes arguments in memory of its own, lists with spare room in which something stands, and texts that can be written over.
type owner struct {
	bytes [][]byte // of all lists and texts
	wipes []func()
}

func (o *owner) text(s string) string {
	if s == "" {
		return ""
	}
	b := roomy(o, []byte(s), 'x')
	return unsafe.String(&b[0], len(b))
}

func roomy[T any](o *owner, l []T, spare T) []T {
	l = append(slices.Clone(l), spare, spare)
	at := listSpan(l)
	o.bytes = append(o.bytes, unsafe.Slice((*byte)(unsafe.Pointer(&l[0])), at.to-at.from))
	o.wipes = append(o.wipes, func() { clear(l[:cap(l)]) })
	return l[:len(l)-2]
}

func (o *owner) module(m api.Module) api.Module {
	m.Consts, m.Funcs = roomy(o, m.Consts, word("spare")), roomy(o, m.Funcs, api.Func{Stack: 99})
	for i := range m.Consts {
		m.Consts[i].Text = o.text(m.Consts[i].Text)
		m.Consts[i].List = roomy(o, m.Consts[i].List, number(5))
	}
	for i := range m.Funcs {
		m.Funcs[i].Code = roomy(o, m.Funcs[i].Code, api.Instr{Op: Ret})
	}
	return m
}

// all answers all that the arguments hold, spare room included.
func (o *owner) all() string { return string(slices.Concat(o.bytes...)) }

func (o *owner) wipe() {
	for _, wipe := range o.wipes {
		wipe()
	}
}

func wipeModule(m api.Module) {
	for _, f := range m.Funcs {
		clear(f.Code[:cap(f.Code)])
	}
	clear(m.Consts[:cap(m.Consts)])
	clear(m.Funcs[:cap(m.Funcs)])
}

func wantNewBytes(t *testing.T, m api.Module, states int) {
	t.Helper()
	want, err := Encode(m, states)
	var o owner
	arg := o.module(m)
	before := o.all()
	first, e := Encode(arg, states)
	second, _ := Encode(arg, states)
	verified := Verify(arg, states)
	for i, v := range arg.Consts {
		if Type(v) != Type(m.Consts[i]) {
			t.Fatalf("%s: %q", told(v), Type(v))
		}
	}
	if o.all() != before {
		t.Fatalf("%s: changed", told(m))
	}
	if share(append(spans(arg), listSpan(first), listSpan(second))...) {
		t.Fatalf("%s: Encode's answers share memory", told(m))
	}
	o.wipe()
	if !bytes.Equal(first, want) || e != err || verified != err {
		t.Fatalf("%x, %d, %d; not %x, %d", first, e, verified, want, err)
	}
	clear(first[:cap(first)])
	if !bytes.Equal(second, want) {
		t.Fatalf("%x; not %x", second, want)
	}
}

func wantNewModule(t *testing.T, b []byte, states int) {
	t.Helper()
	want, err := plainDecode(b, states)
	var o owner
	arg := roomy(&o, b, 9)
	before := o.all()
	first, e := Decode(arg, states)
	second, _ := Decode(arg, states)
	if o.all() != before {
		t.Fatalf("%x: changed", b)
	}
	if share(append(slices.Concat(spans(first), spans(second)), listSpan(arg))...) {
		t.Fatalf("%x: Decode's answers share memory", b)
	}
	o.wipe()
	if !same(first, want) || e != err {
		t.Fatalf("%s, %d; not %s, %d", told(first), e, told(want), err)
	}
	wipeModule(first)
	if !same(second, want) {
		t.Fatalf("%s; not %s", told(second), told(want))
	}
}

func TestNewMemory(t *testing.T) {
	k := maker{r: newRand(10)}
	for range 2000 {
		m, states := k.module()
		if k.r.IntN(3) == 0 {
			k.spoil(&m)
		}
		wantNewBytes(t, m, states)
		if hasBytes(m) {
			b := plainBytes(m)
			wantNewModule(t, b, states)
			wantNewModule(t, b[:k.r.IntN(len(b))], states)
		}
	}
}

// One list stands at several places of what is handed in.
func TestSharedArguments(t *testing.T) {
	m := consts(word("twice"), word("twice"))
	code := asm("Const; Ret; Const; Ret")
	m.Funcs = []api.Func{{Stack: 1, Code: code}, {Stack: 1, Code: code}, {Stack: 1, Code: code[2:]}}
	b, e := Encode(m, 0)
	back, err := Decode(b, 0)
	if e != api.OK || err != api.OK || !same(back, m) || share(spans(back)...) {
		t.Errorf("%s, %d, %d", told(back), e, err)
	}
}

// What is answered hangs on the arguments alone, whatever was asked ahead.
func TestAgain(t *testing.T) {
	k := maker{r: newRand(11)}
	type asked struct {
		m      api.Module
		states int
		b      []byte
		e      api.Errno
	}
	var l []asked
	for range 500 {
		m, states := k.module()
		k.spoil(&m)
		b, e := Encode(m, states)
		l = append(l, asked{m, states, b, e})
	}
	for _, a := range slices.Backward(l) {
		b, e := Encode(copied(a.m), a.states)
		if !bytes.Equal(b, a.b) || e != a.e || Verify(a.m, a.states) != e {
			t.Fatalf("%s: %x, %d; ahead %x, %d", told(a.m), b, e, a.b, a.e)
		}
		if e == api.OK {
			if back, err := Decode(b, a.states); err != api.OK || !same(back, a.m) {
				t.Fatalf("%s: %s, %d", told(a.m), told(back), err)
			}
		}
	}
}

// Constants with many parts within one another, and with many parts.
func TestDeep(t *testing.T) {
	deep := number(1)
	for range 1 << 16 {
		deep = list(deep)
	}
	wide := slices.Repeat([]api.Value{number(1)}, 1<<20)
	for _, kind := range []int{0, 1, 2, 3, 4, 5, 6} {
		for _, l := range [][]api.Value{{deep}, wide} {
			v := api.Value{Kind: kind, List: l}
			if s := Type(v); s != "" {
				t.Errorf("Kind %d: %q", kind, s)
			}
			if e := Verify(consts(v), 0); e != api.ErrCode {
				t.Errorf("Kind %d: %d", kind, e)
			}
		}
	}
}

// The greatest module there is: a chain of jumps through all of each function, ahead and back.
func TestGreatest(t *testing.T) {
	const n = 1 << 14
	chain := make([]api.Instr, n)
	for i := range chain {
		chain[i] = api.Instr{Op: Jump, A: n - 1 - i}
		if i >= n/2 {
			chain[i].A = n - i
		}
	}
	chain[n/2-1] = api.Instr{Op: Const}
	chain[n/2] = api.Instr{Op: Ret}
	m := consts(slices.Repeat([]api.Value{word(strings.Repeat("a", 256))}, n)...)
	for i := range 32 {
		m.Funcs = append(m.Funcs, api.Func{Params: 8, Locals: 256, Zero: n - 1, Stack: 256, Code: chain})
		if i%2 == 1 {
			m.Funcs[i].Code = slices.Concat(slices.Repeat(asm("Const"), 256), slices.Repeat(asm("Neg"), n-257), asm("Ret"))
		}
	}
	b, e := Encode(m, 32)
	if e != api.OK || !bytes.Equal(b, plainBytes(m)) {
		t.Fatalf("%d bytes, %d", len(b), e)
	}
	if back, e := Decode(b, 32); e != api.OK || !same(back, m) {
		t.Errorf("Decode: %d", e)
	}
	if _, e := Decode(b[:len(b)-1], 32); e != api.ErrForm {
		t.Errorf("Decode of all but a byte: %d", e)
	}
}
