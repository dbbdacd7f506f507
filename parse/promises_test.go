package parse

import (
	"cmp"
	"math/rand/v2"
	"slices"
	"strings"
	"testing"
	"unsafe"

	"quern/api"
	"quern/lex"
)

func newRand(seed uint64) *rand.Rand       { return rand.New(rand.NewPCG(7, seed)) }
func pick[T any](r *rand.Rand, list []T) T { return list[r.IntN(len(list))] }

// wantAlike asks that Parse answers what the plain parser does, and answers its error.
func wantAlike(t *testing.T, s string) api.Errno {
	t.Helper()
	got, at, e := Parse(s)
	want, place, err := plainParse(s)
	if !sameProg(got, want) || at != place || e != err {
		t.Fatalf("%s: %+v, %d, %d; not %+v, %d, %d", s, got, at, e, want, place, err)
	}
	return e
}

// grower makes texts from the table: at each choice by chance, up to a depth and about so many tokens.
type grower struct {
	r     *rand.Rand
	depth int
	left  int
	out   []string
}

func (g *grower) word(p *piece) string {
	switch p.word {
	case "number":
		return pick(g.r, strings.Fields("0 1 2 77 9223372036854775807"))
	case "text":
		return pick(g.r, []string{`""`, `"a b"`, `";"`, `"ret"`, `"\"\\"`, `"# no note"`, `"1"`})
	case "NAME":
		return pick(g.r, strings.Fields("a b c x y n f len has i_2 _ tos returns abcdefghijklmn_0"))
	}
	return ""
}

// deepens tells whether something one deeper is among pieces, brackets not looked into.
func deepens(pieces []*piece) bool {
	return slices.ContainsFunc(pieces, func(p *piece) bool { return p.deeper })
}

// choose takes one of several choices; behind the end of its strength one that goes no deeper, if there is one.
func (g *grower) choose(choices [][]*piece, depth int) {
	c := pick(g.r, choices)
	if depth >= g.depth || g.left <= 0 {
		flat := slices.DeleteFunc(slices.Clone(choices), deepens)
		if len(flat) > 0 {
			c = pick(g.r, flat)
		}
	}
	for _, p := range c {
		g.grow(p, depth)
	}
}

func (g *grower) grow(p *piece, depth int) {
	if p.deeper {
		depth++
	}
	switch p.kind {
	case itself:
		g.left--
		g.out = append(g.out, p.word)
	case sort:
		g.left--
		g.out = append(g.out, g.word(p))
	case part:
		if p.word == "type" { // these have a limit of their own
			g.grown(p, depth, 4)
			return
		}
		g.choose(rules[p.word], depth)
	case once:
		g.choose(p.choices, depth)
	case maybe, often:
		for g.left > 0 && depth < g.depth && g.r.IntN(5) < 2 {
			g.choose(p.choices, depth)
			if p.kind == maybe {
				return
			}
		}
	}
}

// grown grows a part up to another depth.
func (g *grower) grown(p *piece, depth, most int) {
	before := g.depth
	g.depth = most
	g.choose(rules[p.word], depth)
	g.depth = before
}

// randomTokens answers a random program's tokens.
func randomTokens(r *rand.Rand) []string {
	for {
		g := grower{r: r, depth: pick(r, []int{3, 5, 9, 24}), left: 20 + r.IntN(200)}
		g.grow(&piece{kind: part, word: "program"}, 0)
		if len(g.out) > 5 || r.IntN(20) == 0 {
			return slices.DeleteFunc(g.out, func(s string) bool { return s == "" })
		}
	}
}

// join lays tokens one behind the other, with gaps of chance between; none are put together to another one.
func join(r *rand.Rand, tokens []string) string {
	var b strings.Builder
	for _, w := range tokens {
		gap := pick(r, []string{"", "", "", " ", " ", "\n", "\t ", "# a note\n", "#\n", " ## ; } \"\n\n"})
		if gap == "" && merges(b.String(), w) {
			gap = " "
		}
		b.WriteString(gap + w)
	}
	b.WriteString(pick(r, []string{"", "", " ", "\n", "# end", " #\n\t"}))
	return b.String()
}

// merges tells whether a token right behind a text could be taken with its last one.
func merges(s, w string) bool {
	if s == "" {
		return false
	}
	a, b := s[len(s)-1:], w[:1]
	word := func(c string) bool { return lex.Word("a" + c) }
	return word(a) && word(b) || b == "="
}

func TestRandomPrograms(t *testing.T) {
	r := newRand(1)
	for range 4000 {
		s := join(r, randomTokens(r))
		if len(s) > api.MaxSource {
			continue
		}
		if e := wantAlike(t, s); e != api.OK {
			t.Fatalf("%s: %d", s, e)
		}
	}
}

// The tokens that a mutation puts in: all marks and reserved words, and some of the other kinds.
func anyTokens() []string {
	all := strings.Fields(reservedWords + " == != <= >= && || ( ) { } [ ] : ; , = < > + - * / % ! . x f 0 7")
	return append(all, `""`, `"ret"`, `";"`, `"x"`)
}

func TestRandomFaults(t *testing.T) {
	r := newRand(2)
	all := anyTokens()
	count := map[api.Errno]int{}
	for range 15000 {
		l := randomTokens(r)
		for range 1 + r.IntN(2) {
			i := r.IntN(len(l))
			switch r.IntN(5) {
			case 0:
				l = slices.Delete(l, i, i+1)
			case 1:
				l = slices.Insert(l, i, pick(r, all))
			case 2:
				l[i] = pick(r, all)
			case 3:
				j := r.IntN(len(l))
				l[i], l[j] = l[j], l[i]
			case 4:
				l = slices.Insert(l, i, slices.Repeat([]string{pick(r, []string{"(", "-", "!", "[", "f(", "if x {", "x["})}, 1+r.IntN(26))...)
			}
			if len(l) == 0 {
				break
			}
		}
		count[wantAlike(t, join(r, l))]++
	}
	if count[api.OK] < 500 || count[api.ErrSyntax] < 5000 || count[api.ErrDeep] < 200 {
		t.Errorf("the texts don't try all: %v", count)
	}
}

func TestRandomSoup(t *testing.T) {
	r := newRand(3)
	all := anyTokens()
	fronts := []string{"", "version 1;", "version 1;state a:", "version 1;fn f(", ahead, ahead + "ret ", ahead + "set a", ahead + "if ", ahead + times("if x{", 23), ahead + "ret " + times("(", 22), ahead + "ret a["}
	for range 25000 {
		l := make([]string, r.IntN(6))
		for i := range l {
			l[i] = pick(r, all)
		}
		wantAlike(t, pick(r, fronts)+" "+join(r, l))
	}
}

// Every way to change one token of a text that has everything, and every way to put one in.
func TestEachTokenChanged(t *testing.T) {
	whole := strings.Fields(`version 1 ; state a : { text : [ int ] } ; fn f ( ) : bool { } on g ( b : int , c : { int : text } ) : text { let d = - 1 + ! x * ( y ) ; set d = a [ 1 ] [ 2 ] ; set d [ 3 ] = f ( ) || h ( i , "j" ) ; del d [ k ] ; if l == true && m < n { ret o ; } else { ret p ; } if false { } for q to r % 2 { } ret s ; }`)
	if e := wantAlike(t, strings.Join(whole, " ")); e != api.OK {
		t.Fatalf("%d", e)
	}
	for i := range len(whole) + 1 {
		front, rest := strings.Join(whole[:i], " ")+" ", whole[i:]
		wantAlike(t, front)
		for _, w := range append(anyTokens(), "@", "07", "abcdefghijklmn_01") {
			wantAlike(t, front+w)
			wantAlike(t, front+w+" "+strings.Join(rest, " "))
			if len(rest) > 0 {
				wantAlike(t, front+w+" "+strings.Join(rest[1:], " "))
			}
		}
		if len(rest) > 0 {
			wantAlike(t, front+strings.Join(rest[1:], " "))
		}
	}
}

// deeper answers pieces that go on within the last of those given, up to a depth.
func deeper(r *rand.Rand, pieces []string, goal int) []string {
	depth := 1 + strings.Count(strings.Join(pieces, ""), "^")
	for depth < goal {
		p := pick(r, deepExprs)
		if slices.Contains(deepMarks, pieces[len(pieces)-1]) {
			p = pick(r, deepUnary)
		}
		pieces = append(pieces, p)
		depth += strings.Count(p, "^")
	}
	return append(pieces, pick(r, deepEnds))
}

// Any of the ways to go deeper within any other, around the limit; and what the plain parser says of it, whole and with a token more.
func TestRandomDeep(t *testing.T) {
	r := newRand(4)
	count := map[api.Errno]int{}
	for range 2000 {
		var pieces []string
		for range r.IntN(24) * r.IntN(2) {
			pieces = append(pieces, pick(r, deepBlocks))
		}
		pieces = deeper(r, append(pieces, pick(r, deepStarts)), 20+r.IntN(8))
		wantNest(t, pieces, strings.Count(strings.Join(pieces, ""), "^") > 23)
		s, _ := nest(pieces)
		count[wantAlike(t, s)]++
		cut := len(ahead) + r.IntN(len(s)-len(ahead))
		wantAlike(t, s[:cut]+" "+pick(r, anyTokens())+" "+s[cut:])
	}
	if count[api.OK] < 500 || count[api.ErrDeep] < 500 {
		t.Errorf("the texts don't try both: %v", count)
	}
}

func TestRandomBytes(t *testing.T) {
	r := newRand(5)
	for range 8000 {
		s := join(r, randomTokens(r))
		b := []byte(s)
		for range 1 + r.IntN(2) {
			b[r.IntN(len(b))] = byte(r.IntN(256))
		}
		wantAlike(t, string(b))
	}
}

// P7.2: gaps. The tokens stay; each place in the answer is that of the same token.

// relay lays a text's tokens with other gaps, and answers where each place went.
func relay(r *rand.Rand, s string) (string, map[int]int) {
	tokens, _, _ := lex.Lex(s)
	var b strings.Builder
	to := map[int]int{}
	for i, tok := range tokens {
		gap := ""
		for range r.IntN(3) {
			gap += pick(r, []string{" ", "\n", "\t", "\n\n", "#\n", "# a note ; \" } & 07\n", "##\x00\xff\n"})
		}
		size := 0
		if tok.Kind != api.TEnd {
			size = len(tok.Text)
		}
		if tok.Kind == api.TText {
			size = len(lex.Quote(tok.Text))
		}
		if i > 0 && gap == "" && size > 0 && merges(b.String(), s[tok.At:]) {
			gap = "\n"
		}
		b.WriteString(gap)
		to[tok.At] = b.Len()
		b.WriteString(s[tok.At : tok.At+size])
	}
	return b.String(), to
}

func TestGapsChangePlacesAlone(t *testing.T) {
	r := newRand(6)
	all := anyTokens()
	wrong := 0
	for range 4000 {
		l := randomTokens(r)
		if r.IntN(2) == 0 {
			l[r.IntN(len(l))] = pick(r, all)
		}
		s := join(r, l)
		before, at, e := Parse(s)
		other, to := relay(r, s)
		if len(other) > api.MaxSource {
			continue
		}
		if e != api.OK {
			wrong++
			wantFault(t, other, to[at], e)
			continue
		}
		wantProg(t, other, moveProg(before, func(at int) int {
			if _, ok := to[at]; !ok {
				t.Fatalf("%s: no token begins at %d", s, at)
			}
			return to[at]
		}))
	}
	if wrong < 1000 || wrong > 3000 {
		t.Errorf("%d of the texts are wrong: they don't try both", wrong)
	}
}

func TestGapsBetweenAll(t *testing.T) {
	parts := strings.Fields(`version 1 ; state a : { text : [ int ] } ; on g ( b : int , c : text ) : text { let d = - 1 + ( y ) ; set d [ 3 ] = f ( ) <= h ( i , "j" ) ; del d [ k ] ; if l { ret ! o ; } else { } for q to r { } ret s [ 1 ] ; }`)
	want := moveProg(wantFine(t, strings.Join(parts, " ")), nowhere)
	for _, gap := range []string{" ", "\n", "\t", "  ", "#\n", " # } ; \"\n", "\n#1\n#2\n", times(" ", 100)} {
		s := gap + strings.Join(parts, gap) + gap
		if got := moveProg(wantFine(t, s), nowhere); !sameProg(got, want) {
			t.Errorf("%q: %+v", gap, got)
		}
	}
	tight := `version 1;state a:{text:[int]};on g(b:int,c:text):text{let d=-1+(y);set d[3]=f()<=h(i,"j");del d[k];if l{ret!o;}else{}for q to r{}ret s[1];}`
	if got := moveProg(wantFine(t, tight), nowhere); !sameProg(got, want) {
		t.Errorf("%+v", got)
	}
}

// P7.2: round brackets around each expr, operand and operator's side that there is.

// exprParts answers all trees that round brackets can be put around.
func exprParts(t *tree) []*tree {
	var out []*tree
	if slices.Contains(strings.Fields("expr or and compare sum product unary primary"), t.part) {
		out = append(out, t)
	}
	for _, k := range t.kids {
		out = append(out, exprParts(k)...)
	}
	return out
}

// bracket puts round brackets around the tokens of trees.
func bracket(tokens []string, around []*tree) []string {
	opens, shuts := map[int]int{}, map[int]int{}
	for _, x := range around {
		opens[x.from]++
		shuts[x.to]++
	}
	var out []string
	for i, w := range tokens {
		out = append(out, slices.Repeat([]string{")"}, shuts[i])...)
		out = append(out, slices.Repeat([]string{"("}, opens[i])...)
		out = append(out, w)
	}
	return out
}

func TestBracketsChangePlacesAlone(t *testing.T) {
	r := newRand(7)
	deep, fine := 0, 0
	for range 4000 {
		l := randomTokens(r)
		s := strings.Join(l, " ")
		root, _, e := plainTree(s)
		if e != api.OK {
			t.Fatalf("%s: %d", s, e)
		}
		all := exprParts(root)
		if len(all) == 0 {
			continue
		}
		want := moveProg(wantFine(t, s), nowhere)
		around := all
		if r.IntN(8) > 0 {
			around = nil
			for range 1 + r.IntN(4) {
				around = append(around, pick(r, all))
			}
		}
		other := join(r, bracket(l, around))
		if len(other) > api.MaxSource {
			continue
		}
		got, _, e := Parse(other)
		switch {
		case e == api.ErrDeep:
			deep++
			wantAlike(t, other)
		case e != api.OK || !sameProg(moveProg(got, nowhere), want):
			t.Fatalf("%s: %s: %+v, %d", s, other, got, e)
		default:
			fine++
		}
	}
	if deep < 100 || fine < 1000 {
		t.Errorf("the texts don't try both: %d, %d", deep, fine)
	}
}

func TestBracketsLeaveNothing(t *testing.T) {
	for _, x := range []string{"1", "x", "true", `"a"`, "f()", "f(1,2)", "a[1]", "-x", "!x", "a+b", "a+b*c", "a<b", "a||b&&c", "-a[f(1)]%2"} {
		want := moveProg(wantFine(t, ahead+"ret "+x+";}"), nowhere)
		for n := 1; n < 18; n++ {
			s := ahead + "ret " + times("(", n) + x + times(")", n) + ";}"
			if got := moveProg(wantFine(t, s), nowhere); !sameProg(got, want) {
				t.Errorf("%s: %+v", s, got)
			}
		}
	}
	for _, pair := range [][2]string{
		{"a+b*c", "(a)+((b)*(c))"}, {"a*b+c", "((a*b)+c)"}, {"a-b-c", "(a-b)-c"}, {"a||b&&c", "a||(b&&c)"}, {"-a[1]", "-(a[1])"}, {"-a[1]", "(-((a)[(1)]))"}, {"!a==b", "(!a)==b"}, {"f(a,b+c)", "(f((a),(b+c)))"}, {"a<b&&c", "(a<b)&&c"},
		{"- -a", "-(-a)"}, {"a%b/c", "((a%b)/c)"},
	} {
		a, b := wantFine(t, ahead+"ret "+pair[0]+";}"), wantFine(t, ahead+"ret "+pair[1]+";}")
		if !sameProg(moveProg(a, nowhere), moveProg(b, nowhere)) {
			t.Errorf("%s and %s: %+v, %+v", pair[0], pair[1], a, b)
		}
	}
	for _, pair := range [][2]string{{"a-b-c", "a-(b-c)"}, {"(a+b)*c", "a+b*c"}, {"-(a)[1]", "(-a)[1]"}, {"!(a==b)", "!a==b"}, {"(a||b)&&c", "a||b&&c"}} {
		a, b := wantFine(t, ahead+"ret "+pair[0]+";}"), wantFine(t, ahead+"ret "+pair[1]+";}")
		if sameProg(moveProg(a, nowhere), moveProg(b, nowhere)) {
			t.Errorf("%s and %s: %+v", pair[0], pair[1], a)
		}
	}
}

// P7.3

// wantBroken asks that a program's text, broken off behind each of its tokens, has its fault at its end, or is a program; and answers how many are programs.
func wantBroken(t *testing.T, s string) int {
	t.Helper()
	tokens, _, _ := lex.Lex(s)
	programs := 0
	for i, tok := range tokens[:len(tokens)-1] {
		size := len(tok.Text)
		if tok.Kind == api.TText {
			size = len(lex.Quote(tok.Text))
		}
		front := s[:tok.At+size]
		for _, gap := range []string{"", "\n", " # a note"} {
			_, at, e := Parse(front + gap)
			if e == api.OK && at == 0 {
				programs++
			} else if at != len(front+gap) || e != api.ErrSyntax && e != api.ErrDeep {
				t.Fatalf("%s, behind token %d: %d, %d", front+gap, i, at, e)
			}
		}
	}
	return programs / 3
}

func TestBrokenOff(t *testing.T) {
	for s, programs := range map[string]int{
		"version 1;": 1, "version 1;state a:int;state b:text;": 3, "version 1; fn f(): int {} on g(a: int): int { if a { ret 1; } else { ret 2; } }": 3,
		"version 1; on add(x:int):int{set n=n+x;ret n;}": 2, "version 1; # a\nstate a: {int:[text]}; # b\nfn f(): int { let x = \"a b\" + f(1, -2)[3]; }\n": 3,
	} {
		if n := wantBroken(t, s); n != programs {
			t.Errorf("%s: %d of its beginnings are programs", s, n)
		}
	}
	r := newRand(8)
	for range 200 {
		s := join(r, randomTokens(r))
		if len(s) <= api.MaxSource-20 {
			wantBroken(t, s)
		}
	}
	for range 100 {
		if s, deep := nest(deeper(r, []string{pick(r, deepStarts)}, 23+r.IntN(2))); deep < 0 {
			wantBroken(t, s)
		}
	}
}

// P7.4

// span is the memory that something has.
type span struct{ from, to uintptr }

func listSpan[T any](l []T) span {
	var one T
	from := uintptr(unsafe.Pointer(unsafe.SliceData(l)))
	return span{from, from + uintptr(cap(l))*unsafe.Sizeof(one)}
}

func textSpan(s string) span {
	from := uintptr(unsafe.Pointer(unsafe.StringData(s)))
	return span{from, from + uintptr(len(s))}
}

// memory notes all lists and texts that a program has.
type memory struct {
	lists, texts []span
}

func (m *memory) exprs(l []api.Expr) {
	m.lists = append(m.lists, listSpan(l))
	for _, x := range l {
		m.texts = append(m.texts, textSpan(x.Text))
		m.exprs(x.Args)
	}
}

func (m *memory) stmts(l []api.Stmt) {
	m.lists = append(m.lists, listSpan(l))
	for _, s := range l {
		m.texts = append(m.texts, textSpan(s.Name))
		m.exprs(s.E)
		m.stmts(s.Body)
		m.stmts(s.Else)
	}
}

func (m *memory) slots(l []api.Slot) {
	m.lists = append(m.lists, listSpan(l))
	for _, s := range l {
		m.texts = append(m.texts, textSpan(s.Name), textSpan(s.Type))
	}
}

func (m *memory) prog(p api.Prog) {
	m.slots(p.States)
	m.lists = append(m.lists, listSpan(p.Fns))
	for _, f := range p.Fns {
		m.texts = append(m.texts, textSpan(f.Name), textSpan(f.Result))
		m.slots(f.Params)
		m.stmts(f.Body)
	}
}

// share tells whether two of these have a byte in common.
func share(l []span) bool {
	l = slices.DeleteFunc(slices.Clone(l), func(s span) bool { return s.from == s.to })
	slices.SortFunc(l, func(a, b span) int { return cmp.Compare(a.from, b.from) })
	for i := 1; i < len(l); i++ {
		if l[i-1].to > l[i].from {
			return true
		}
	}
	return false
}

// spoil writes over all lists of a program, spare room included.
func spoil(p api.Prog) {
	for _, f := range p.Fns[:cap(p.Fns)] {
		spoilStmts(f.Body)
		clear(f.Params[:cap(f.Params)])
	}
	clear(p.Fns[:cap(p.Fns)])
	clear(p.States[:cap(p.States)])
}

func spoilStmts(l []api.Stmt) {
	for _, s := range l[:cap(l)] {
		spoilStmts(s.Body)
		spoilStmts(s.Else)
		spoilExprs(s.E)
	}
	clear(l[:cap(l)])
}

func spoilExprs(l []api.Expr) {
	for _, x := range l[:cap(l)] {
		spoilExprs(x.Args)
	}
	clear(l[:cap(l)])
}

func TestNewMemory(t *testing.T) {
	r := newRand(9)
	for range 500 {
		b := []byte(join(r, randomTokens(r)))
		if len(b) > api.MaxSource {
			continue
		}
		s := unsafe.String(&b[0], len(b))
		first, second := wantFine(t, s), wantFine(t, s)
		want := moveProg(first, func(at int) int { return at })
		var m memory
		m.prog(first)
		m.prog(second)
		if share(m.lists) {
			t.Fatalf("%s: lists share memory", s)
		}
		whole := textSpan(s)
		for _, x := range m.texts {
			if x.from < whole.to && whole.from < x.to {
				t.Fatalf("%s: a text is a part of it", s)
			}
		}
		spoil(first)
		if !sameProg(second, want) || !sameProg(wantFine(t, s), want) {
			t.Fatalf("%s: %+v; not %+v", s, second, want)
		}
		clear(b)
		if !sameProg(second, want) {
			t.Fatalf("%+v; not %+v", second, want)
		}
	}
}

// What is answered hangs on the text alone.
func TestAgain(t *testing.T) {
	r := newRand(10)
	var texts []string
	for range 300 {
		texts = append(texts, join(r, randomTokens(r)), join(r, append(randomTokens(r), pick(r, anyTokens()))))
	}
	type answer struct {
		p  api.Prog
		at int
		e  api.Errno
	}
	var before []answer
	for _, s := range texts {
		p, at, e := Parse(s)
		before = append(before, answer{p, at, e})
	}
	for i, s := range slices.Backward(texts) {
		p, at, e := Parse(strings.Clone(s))
		if w := before[i]; !sameProg(p, w.p) || at != w.at || e != w.e {
			t.Fatalf("%s: %+v, %d, %d", s, p, at, e)
		}
	}
}
