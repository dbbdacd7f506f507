package lex

import (
	"math/big"
	"math/rand/v2"
	"regexp"
	"slices"
	"strconv"
	"strings"
	"testing"
	"unsafe"

	"quern/api"
)

// The plain lexer is the chapter word by word, in another shape: each kind of token is a pattern of the library's.

var (
	plainGap    = regexp.MustCompile(`^(?:[ \n\t]|#[^\n]*)*`)
	plainName   = regexp.MustCompile(`^[a-z_][a-z_0-9]*`)
	plainDigits = regexp.MustCompile(`^[0-9]+`)
	plainText   = regexp.MustCompile(`^"(?:[ !#-\[\]-~]|\\["\\])*`) // but its end
	plainMark   = regexp.MustCompile(`^(?:==|!=|<=|>=|&&|\|\||[(){}\[\]:;,=<>+\-*/%!.])`)
	plainEscape = regexp.MustCompile(`\\(["\\])`)
	onlyGap     = regexp.MustCompile(`^(?:[ \n\t]|#[^\n]*(?:\n|$))*$`)
)

func plainLex(s string) ([]api.Token, int, api.Errno) {
	if len(s) > 16384 {
		return nil, 16384, api.ErrLong
	}
	var out []api.Token
	for at := 0; ; {
		at += len(plainGap.FindString(s[at:]))
		t, size, place, e := plainToken(s, at)
		if e != api.OK {
			return nil, place, e
		}
		if out = append(out, t); len(out) > 4096 {
			return nil, at, api.ErrMany
		}
		if t.Kind == api.TEnd {
			return out, 0, api.OK
		}
		at += size
	}
}

// plainToken answers the token at a place, and its size in the source; or a fault's place and the fault.
func plainToken(s string, at int) (t api.Token, size, place int, e api.Errno) {
	rest := s[at:]
	if rest == "" {
		return api.Token{Kind: 5, At: at}, 0, 0, api.OK
	}
	if p := plainName.FindString(rest); p != "" {
		if len(p) > 16 {
			return t, 0, at, api.ErrLong
		}
		return api.Token{Kind: 1, Text: p, At: at}, len(p), 0, api.OK
	}
	if p := plainDigits.FindString(rest); p != "" {
		if p != "0" && p[0] == '0' {
			return t, 0, at, api.ErrToken
		}
		n, _ := new(big.Int).SetString(p, 10)
		if !n.IsInt64() {
			return t, 0, at, api.ErrLong
		}
		return api.Token{Kind: 2, Text: p, Num: int(n.Int64()), At: at}, len(p), 0, api.OK
	}
	if p := plainText.FindString(rest); p != "" {
		if len(p) == len(rest) {
			return t, 0, at, api.ErrToken
		}
		if rest[len(p)] != '"' {
			return t, 0, at + len(p), api.ErrToken
		}
		inner := plainEscape.ReplaceAllString(p[1:], "$1")
		if len(inner) > 256 {
			return t, 0, at, api.ErrLong
		}
		return api.Token{Kind: 3, Text: inner, At: at}, len(p) + 1, 0, api.OK
	}
	if p := plainMark.FindString(rest); p != "" {
		return api.Token{Kind: 4, Text: p, At: at}, len(p), 0, api.OK
	}
	return t, 0, at, api.ErrToken
}

func name(s string, at int) api.Token      { return api.Token{Kind: api.TName, Text: s, At: at} }
func text(s string, at int) api.Token      { return api.Token{Kind: api.TText, Text: s, At: at} }
func mark(s string, at int) api.Token      { return api.Token{Kind: api.TMark, Text: s, At: at} }
func end(at int) api.Token                 { return api.Token{Kind: api.TEnd, At: at} }
func num(s string, n, at int) api.Token    { return api.Token{Kind: api.TInt, Text: s, Num: n, At: at} }
func times(s string, n int) string         { return strings.Repeat(s, n) }
func newRand(seed uint64) *rand.Rand       { return rand.New(rand.NewPCG(6, seed)) }
func pick[T any](r *rand.Rand, list []T) T { return list[r.IntN(len(list))] }

// short is a text as it is told in a failure.
func short(s string) string {
	if len(s) > 80 {
		return strconv.Quote(s[:80]) + " and " + strconv.Itoa(len(s)-80) + " more"
	}
	return strconv.Quote(s)
}

// wantTokens asks that a text has these tokens.
func wantTokens(t *testing.T, s string, want ...api.Token) {
	t.Helper()
	got, at, e := Lex(s)
	if e != api.OK || at != 0 || !slices.Equal(got, want) {
		t.Errorf("%s: %+v, %d, %d; not %+v", short(s), got, at, e, want)
	}
}

// wantFault asks that a text has this first fault.
func wantFault(t *testing.T, s string, at int, e api.Errno) {
	t.Helper()
	if l, a, err := Lex(s); len(l) != 0 || a != at || err != e {
		t.Errorf("%s: %d tokens, %d, %d; not %d, %d", short(s), len(l), a, err, at, e)
	}
}

// wantAlike asks that Lex answers what the plain lexer does, and answers whether the text has tokens.
func wantAlike(t *testing.T, s string) bool {
	t.Helper()
	got, at, e := Lex(s)
	want, place, err := plainLex(s)
	if !slices.Equal(got, want) || at != place || e != err {
		t.Fatalf("%s: %+v, %d, %d; not %+v, %d, %d", short(s), got, at, e, want, place, err)
	}
	return e == api.OK
}

// P6.1: the tokens of each kind.

func TestOrdinary(t *testing.T) {
	wantTokens(t, "a<=b", name("a", 0), mark("<=", 1), name("b", 3), end(4))
	wantTokens(t, `"a\"b"`, text(`a"b`, 0), end(6))
	wantTokens(t, "let x = 12; # a note\n\"a\\\\b\"",
		name("let", 0), name("x", 4), mark("=", 6), num("12", 12, 8), mark(";", 10), text(`a\b`, 21), end(27))
	wantTokens(t, "on f(x_1: [int]): {int:text} {\n\tret x_1[0] % -7;\n}",
		name("on", 0), name("f", 3), mark("(", 4), name("x_1", 5), mark(":", 8), mark("[", 10), name("int", 11), mark("]", 14),
		mark(")", 15), mark(":", 16), mark("{", 18), name("int", 19), mark(":", 22), name("text", 23), mark("}", 27), mark("{", 29),
		name("ret", 32), name("x_1", 36), mark("[", 39), num("0", 0, 40), mark("]", 41), mark("%", 43), mark("-", 45),
		num("7", 7, 46), mark(";", 47), mark("}", 49), end(50))
}

func TestNothing(t *testing.T) {
	wantTokens(t, "", end(0))
	wantTokens(t, " ", end(1))
	wantTokens(t, "\n\t \n", end(4))
	wantTokens(t, "#", end(1))
	wantTokens(t, "# a\n#b", end(6))
}

func TestTooLongSource(t *testing.T) {
	wantTokens(t, times(" ", api.MaxSource), end(api.MaxSource))
	wantTokens(t, times(" ", api.MaxSource-1)+"a", name("a", api.MaxSource-1), end(api.MaxSource))
	wantTokens(t, "a#"+times("x", api.MaxSource-2), name("a", 0), end(api.MaxSource))
	wantFault(t, times(" ", api.MaxSource-1)+"A", api.MaxSource-1, api.ErrToken)
	for _, s := range []string{
		times(" ", api.MaxSource+1), times("(", api.MaxSource+1), times("A", api.MaxSource+1),
		"07" + times("\n", api.MaxSource-1), times("a ", api.MaxSource), times("\"", 1<<20),
	} {
		wantFault(t, s, api.MaxSource, api.ErrLong)
	}
}

func TestEachByteAlone(t *testing.T) {
	for b := range 256 {
		s := string([]byte{byte(b)})
		switch {
		case strings.Contains(" \n\t#", s):
			wantTokens(t, s, end(1))
		case strings.Contains("abcdefghijklmnopqrstuvwxyz_", s):
			wantTokens(t, s, name(s, 0), end(1))
		case strings.Contains("0123456789", s):
			wantTokens(t, s, num(s, b-'0', 0), end(1))
		case strings.Contains("(){}[]:;,=<>+-*/%!.", s):
			wantTokens(t, s, mark(s, 0), end(1))
		default: // a quote is a text without an end
			wantFault(t, s, 0, api.ErrToken)
		}
	}
}

func TestEachByteBetween(t *testing.T) {
	for b := range 256 {
		s := string([]byte{byte(b)})
		for _, around := range [][2]string{{"x ", " y"}, {"x", "y"}, {"1", "2"}, {"(", ")"}, {"\"a\"", "\"b\""}, {"=", "="}, {"# ", "\nx"}, {"", "\n#"}} {
			wantAlike(t, around[0]+s+around[1])
		}
		if strings.Contains("AZ$&'?@^`|~\r\v\f\x00\x7f\x80\xa0\xff", s) {
			wantFault(t, "x "+s+" y", 2, api.ErrToken)
		}
	}
	wantFault(t, "a é", 2, api.ErrToken)
}

func TestEachByteInText(t *testing.T) {
	for b := range 256 {
		s := string([]byte{byte(b)})
		switch {
		case b == '"':
			wantFault(t, `x "a"b"`, 6, api.ErrToken)
		case b == '\\':
			wantFault(t, `x "a\b"`, 4, api.ErrToken)
		case b < 0x20 || b > 0x7e:
			wantFault(t, `x "a`+s+`b"`, 4, api.ErrToken)
		default:
			wantTokens(t, `x "a`+s+`b"`, name("x", 0), text("a"+s+"b", 2), end(7))
		}
	}
}

func TestEachByteBehindBackslash(t *testing.T) {
	for b := range 256 {
		s := string([]byte{byte(b)})
		if b == '"' || b == '\\' {
			wantTokens(t, `x "a\`+s+`b"`, name("x", 0), text("a"+s+"b", 2), end(8))
			continue
		}
		wantFault(t, `x "a\`+s+`b"`, 4, api.ErrToken)
	}
}

func TestEachByteInNote(t *testing.T) {
	for b := range 256 {
		s := string([]byte{byte(b)})
		if b == '\n' {
			wantTokens(t, "x#a"+s+"b", name("x", 0), name("b", 4), end(5))
			continue
		}
		wantTokens(t, "x#a"+s+"b", name("x", 0), end(5))
		wantTokens(t, "x#a"+s+"b\ny", name("x", 0), name("y", 6), end(7))
	}
}

func TestNames(t *testing.T) {
	long := "abcdefghijklmn_0"
	wantTokens(t, long, name(long, 0), end(16))
	wantTokens(t, " "+long+"(", name(long, 1), mark("(", 17), end(18))
	wantTokens(t, "_", name("_", 0), end(1))
	wantTokens(t, "_9 z0_", name("_9", 0), name("z0_", 3), end(6))
	wantFault(t, long+"x", 0, api.ErrLong)
	wantFault(t, long+"_", 0, api.ErrLong)
	wantFault(t, "( "+long+"0", 2, api.ErrLong)
	wantFault(t, " "+times("a", 9000), 1, api.ErrLong)
	wantFault(t, "aB", 1, api.ErrToken)
	wantFault(t, "abc$d", 3, api.ErrToken)
	wantTokens(t, "abc.d", name("abc", 0), mark(".", 3), name("d", 4), end(5))
	wantFault(t, long+"xB", 0, api.ErrLong)
}

func TestNumbers(t *testing.T) {
	wantTokens(t, "0", num("0", 0, 0), end(1))
	wantTokens(t, "10 9", num("10", 10, 0), num("9", 9, 3), end(4))
	wantTokens(t, "9223372036854775807", num("9223372036854775807", 1<<63-1, 0), end(19))
	wantTokens(t, "-9223372036854775807", mark("-", 0), num("9223372036854775807", 1<<63-1, 1), end(20))
	wantFault(t, "9223372036854775808", 0, api.ErrLong)
	wantFault(t, "-9223372036854775808", 1, api.ErrLong)
	wantFault(t, " 9999999999999999999", 1, api.ErrLong)
	wantFault(t, "18446744073709551616", 0, api.ErrLong) // 2^64: nothing is left of it if it goes round
	wantFault(t, "18446744073709551621", 0, api.ErrLong)
	wantFault(t, "x "+times("9", 9000), 2, api.ErrLong)
	wantFault(t, "x 1"+times("0", 9000), 2, api.ErrLong)
	wantTokens(t, "1.50", num("1", 1, 0), mark(".", 1), num("50", 50, 2), end(4))
	wantFault(t, "1.05", 2, api.ErrToken) // what is behind the mark is a number of its own
}

func TestNoughtsAhead(t *testing.T) {
	wantFault(t, "let x=07", 6, api.ErrToken)
	wantFault(t, "00", 0, api.ErrToken)
	wantFault(t, " 01 ", 1, api.ErrToken)
	wantFault(t, "x "+times("0", 30), 2, api.ErrToken)
	wantFault(t, "x 0"+times("9", 30), 2, api.ErrToken)
	wantFault(t, "x 09223372036854775807", 2, api.ErrToken)
	wantTokens(t, "0x1", num("0", 0, 0), name("x1", 1), end(3))
	wantTokens(t, "0 0", num("0", 0, 0), num("0", 0, 2), end(3))
}

func TestTexts(t *testing.T) {
	wantTokens(t, `""`, text("", 0), end(2))
	wantTokens(t, `"" ""`, text("", 0), text("", 3), end(5))
	wantTokens(t, `"\\"`, text(`\`, 0), end(4))
	wantTokens(t, `"\\\""`, text(`\"`, 0), end(6))
	wantTokens(t, `"# no note"`, text("# no note", 0), end(11))
	wantTokens(t, `"let 07 &"`, text("let 07 &", 0), end(10))
	most := times("x", api.MaxBytes)
	wantTokens(t, `"`+most+`"`, text(most, 0), end(258))
	wantFault(t, ` "`+most+`x"`, 1, api.ErrLong)
	for _, c := range []string{`"`, `\`} {
		wantTokens(t, `"`+times(`\`+c, 256)+`"`, text(times(c, 256), 0), end(514))
		wantFault(t, `("`+times(`\`+c, 257)+`"`, 1, api.ErrLong)
		wantTokens(t, `"`+most[1:]+`\`+c+`"`, text(most[1:]+c, 0), end(259))
		wantFault(t, `"`+most+`\`+c+`"`, 0, api.ErrLong)
	}
}

func TestTextsAtFault(t *testing.T) {
	long := times("x", 300)
	wantFault(t, `"`, 0, api.ErrToken)
	wantFault(t, `x "abc`, 2, api.ErrToken)
	wantFault(t, `x "abc\"`, 2, api.ErrToken)
	wantFault(t, `x "`+long, 2, api.ErrToken)
	wantFault(t, `x "abc\`, 6, api.ErrToken)
	wantFault(t, `x "\`, 3, api.ErrToken)
	wantFault(t, `x "\\\`, 5, api.ErrToken)
	wantFault(t, "x \"abc\ny", 6, api.ErrToken) // ahead of what is told at its end
	wantFault(t, "x \"abc\n\"", 6, api.ErrToken)
	wantFault(t, "x \"a\\\n\"", 4, api.ErrToken)
	wantFault(t, `x "`+long+"\t\"", 303, api.ErrToken)
	wantFault(t, `x "`+long+`\n"`, 303, api.ErrToken)
	wantFault(t, `x "`+long+`\`, 303, api.ErrToken)
	wantFault(t, "\"\x7f\x80\"", 1, api.ErrToken)
	wantFault(t, `"é"`, 1, api.ErrToken)
}

func TestMarks(t *testing.T) {
	all := strings.Fields("== != <= >= && || ( ) { } [ ] : ; , = < > + - * / % ! .")
	for _, m := range all {
		wantTokens(t, m, mark(m, 0), end(len(m)))
		wantTokens(t, "a"+m+"1", name("a", 0), mark(m, 1), num("1", 1, 1+len(m)), end(2+len(m)))
		wantTokens(t, m+" "+m, mark(m, 0), mark(m, 1+len(m)), end(1+2*len(m)))
		for _, n := range all {
			wantAlike(t, m+n)
			wantAlike(t, m+n+m)
		}
	}
	wantTokens(t, "===", mark("==", 0), mark("=", 2), end(3))
	wantTokens(t, "!==", mark("!=", 0), mark("=", 2), end(3))
	wantTokens(t, "=!=", mark("=", 0), mark("!=", 1), end(3))
	wantTokens(t, "!!<>", mark("!", 0), mark("!", 1), mark("<", 2), mark(">", 3), end(4))
	wantTokens(t, "=<=>=", mark("=", 0), mark("<=", 1), mark(">=", 3), end(5))
	wantTokens(t, "= =", mark("=", 0), mark("=", 2), end(3))
	wantTokens(t, "&&||", mark("&&", 0), mark("||", 2), end(4))
	wantTokens(t, "..=.", mark(".", 0), mark(".", 1), mark("=", 2), mark(".", 3), end(4))
	for _, c := range []string{"&", "|"} {
		wantFault(t, c, 0, api.ErrToken)
		wantFault(t, "a "+c+" b", 2, api.ErrToken)
		wantFault(t, c+" "+c, 0, api.ErrToken)
		wantFault(t, c+"="+c, 0, api.ErrToken)
		wantFault(t, c+c+c, 2, api.ErrToken)
	}
	wantFault(t, "&|", 0, api.ErrToken)
	wantFault(t, "|&", 0, api.ErrToken)
}

func TestWithoutBlanks(t *testing.T) {
	wantTokens(t, `12ab"c"d"e"3(`,
		num("12", 12, 0), name("ab", 2), text("c", 4), name("d", 7), text("e", 8), num("3", 3, 11), mark("(", 12), end(13))
	wantTokens(t, "a#b\nc", name("a", 0), name("c", 4), end(5))
	wantTokens(t, "1#b", num("1", 1, 0), end(3))
	wantTokens(t, "=#\n=", mark("=", 0), mark("=", 3), end(4))
}

// manyTokens is a text of so many tokens, the end not counted.
func manyTokens(n int) string { return times("a ", n-1) + "b" }

func TestMany(t *testing.T) {
	got, at, e := Lex(manyTokens(4095))
	if len(got) != 4096 || at != 0 || e != api.OK || got[4095] != end(8189) || got[4094] != name("b", 8188) {
		t.Errorf("%d tokens, %d, %d", len(got), at, e)
	}
	wantFault(t, manyTokens(4096), 8191, api.ErrMany)         // the end is one too many
	wantFault(t, manyTokens(4096)+" # x", 8195, api.ErrMany)  // at its place
	wantFault(t, manyTokens(4096)+"\n\nc", 8193, api.ErrMany) // another token is
	wantFault(t, manyTokens(4096)+" c @", 8192, api.ErrMany)  // a fault behind it comes too late
	wantFault(t, manyTokens(4097), 8192, api.ErrMany)
	wantFault(t, times("(", 4096), 4096, api.ErrMany)
	wantFault(t, times("(", api.MaxSource), 4096, api.ErrMany)
	wantFault(t, "@"+manyTokens(4097), 0, api.ErrToken) // a fault ahead of it comes first
	wantFault(t, times("(", 4095)+"@((", 4095, api.ErrToken)
}

// What is wrong with the one too many is no token, or is named first.
func TestManyAndAnother(t *testing.T) {
	ahead := times("(", 4096)
	wantFault(t, ahead+"@", 4096, api.ErrToken)
	wantFault(t, ahead+" &", 4097, api.ErrToken)
	wantFault(t, ahead+"07", 4096, api.ErrToken)
	wantFault(t, ahead+`"a`, 4096, api.ErrToken)
	wantFault(t, ahead+"\"a\n\"", 4098, api.ErrToken)
	wantFault(t, ahead+times("a", 17), 4096, api.ErrLong)
	wantFault(t, ahead+times("9", 20), 4096, api.ErrLong)
	wantFault(t, ahead+`"`+times("9", 257)+`"`, 4096, api.ErrLong)
	wantFault(t, ahead+"a @", 4096, api.ErrMany)
	wantFault(t, ahead+"0", 4096, api.ErrMany)
}

func TestFirstFault(t *testing.T) {
	long := times("n", 17)
	wantFault(t, "A 07", 0, api.ErrToken)
	wantFault(t, "07 "+long, 0, api.ErrToken)
	wantFault(t, long+" 07", 0, api.ErrLong)
	wantFault(t, "x "+long+" @", 2, api.ErrLong)
	wantFault(t, `x "`+times("x", 257)+`" & "`, 2, api.ErrLong)
	wantFault(t, `x & "`+times("x", 257)+`"`, 2, api.ErrToken)
	wantFault(t, "# @ 07 &\n 9223372036854775808 07", 10, api.ErrLong)
}

// pieces are what random texts are made of; the first row's have no fault in themselves.
func pieces() (good, bad []string) {
	good = strings.Fields("a b _ x1 let version abcdefghijklmn_0 0 1 9 12 907 9223372036854775807 == != <= >= && || ( ) { } [ ] : ; , = < > + - * / % ! .")
	good = append(good, `""`, `"a b"`, `"\""`, `"\\"`, `"#\\\""`, `"`+times("y", 256)+`"`, `"`+times(`\"`, 256)+`"`, "#\n", "# a\"\n", "#\x00\xff\n", " ", "\n", "\t", "  \t\n ")
	bad = []string{"00", "07", "9223372036854775808", times("0", 25), times("7", 25), "abcdefghijklmn_01", `"`, `"a`, `\`, `"\`, "\"\n\"", "\"\xff\"", `"\a"`, "&", "|", "$", "A", "é", "\r", "\x00", "\x7f", "#", "\"" + times("y", 257) + "\"", "\"" + times("y", 257)}
	return good, bad
}

func randomText(r *rand.Rand, faults bool) string {
	good, bad := pieces()
	var b strings.Builder
	for range r.IntN(40) {
		b.WriteString(pick(r, good))
		if r.IntN(3) > 0 {
			b.WriteString(pick(r, []string{" ", "\n", "\t"}))
		}
		if faults && r.IntN(30) == 0 {
			b.WriteString(pick(r, bad))
		}
	}
	return b.String()
}

func TestRandomTexts(t *testing.T) {
	r := newRand(1)
	right := 0
	for range 6000 {
		s := randomText(r, true)
		if wantAlike(t, s) {
			right++
		}
		cut := r.IntN(len(s) + 1)
		wantAlike(t, s[:cut])
		wantAlike(t, s[:cut]+string([]byte{byte(r.IntN(256))})+s[cut:])
	}
	if right < 1000 || right > 5000 {
		t.Errorf("%d of the texts are right: they don't try both", right)
	}
}

func TestRandomBytes(t *testing.T) {
	r := newRand(2)
	few := "aZ_09\"\\#&|=!<>. \n\t\x00\xff"
	for range 100000 {
		b := make([]byte, r.IntN(12))
		for i := range b {
			b[i] = few[r.IntN(len(few))]
		}
		wantAlike(t, string(b))
	}
}

func TestRandomLongTexts(t *testing.T) {
	r := newRand(3)
	marks := strings.Fields("( ) { } [ ] a b 0 1 == <=")
	many := 0
	for range 60 {
		var b strings.Builder
		for n := 4080 + r.IntN(30); n > 0; n-- {
			b.WriteString(pick(r, marks) + pick(r, []string{" ", "\n", "\t", " #\n"}))
		}
		b.WriteString(pick(r, []string{"", "x", "@", "07", `"`, "\"\n"}))
		s := b.String()
		if _, _, e := Lex(s); e == api.ErrMany {
			many++
		}
		wantAlike(t, s)
	}
	if many < 10 || many > 50 {
		t.Errorf("%d of the texts have too many tokens: they don't try both", many)
	}
}

// P6.1: Quote, Plain and Word.

func TestQuote(t *testing.T) {
	for _, c := range [][2]string{
		{"", `""`}, {"a", `"a"`}, {`a"b`, `"a\"b"`}, {`\`, `"\\"`}, {`"\`, `"\"\\"`}, {`\"`, `"\\\""`}, {"a\nb", "\"a\nb\""}, {"é\xff\x00", "\"é\xff\x00\""},
		{times(`"`, 300), `"` + times(`\"`, 300) + `"`}, {"'`", "\"'`\""},
	} {
		if got := Quote(c[0]); got != c[1] {
			t.Errorf("%s: %s", short(c[0]), short(got))
		}
	}
	for b := range 256 {
		s := string([]byte{byte(b)})
		want := `"x` + s + `y"`
		if b == '"' || b == '\\' {
			want = `"x\` + s + `y"`
		}
		if got := Quote("x" + s + "y"); got != want {
			t.Errorf("byte %d: %q", b, got)
		}
	}
}

func TestPlain(t *testing.T) {
	for b := range 256 {
		s := string([]byte{byte(b)})
		want := b >= 0x20 && b <= 0x7e
		for _, x := range []string{s, s + "a", "a" + s, "ab" + s + "cd", times(s, 256), times("a", 255) + s} {
			if Plain(x) != want {
				t.Errorf("%s: %v", short(x), !want)
			}
		}
		if Plain(times(s, 257)) || Plain(times("a", 256)+s) {
			t.Errorf("byte %d: a text that is too long", b)
		}
	}
	if !Plain("") || !Plain(times(`"`, 256)) || Plain(times(`"`, 257)) || Plain("é") || Plain(times(" ", 1<<20)) {
		t.Error("nothing, quotes, letters beyond, far too long")
	}
}

func TestWord(t *testing.T) {
	first, behind := "abcdefghijklmnopqrstuvwxyz_", "abcdefghijklmnopqrstuvwxyz_0123456789"
	for b := range 256 {
		s := string([]byte{byte(b)})
		if Word(s) != strings.Contains(first, s) || Word(s+"a") != strings.Contains(first, s) {
			t.Errorf("byte %d ahead", b)
		}
		for _, x := range []string{"a" + s, "_" + s + "9", times("q", 15) + s} {
			if Word(x) != strings.Contains(behind, s) {
				t.Errorf("%s: %v", short(x), Word(x))
			}
		}
		if Word(times("q", 16) + s) {
			t.Errorf("byte %d: a name that is too long", b)
		}
	}
	for _, s := range []string{"a", "_", "__", "a_1", "version", "true", "abcdefghijklmn_0"} {
		if !Word(s) {
			t.Errorf("%q isn't a name", s)
		}
	}
	for _, s := range []string{"", " ", "1a", "0", "a b", " a", "a ", "A", "aB", "é", "aé", "a-b", ".", "a.b", "a\n", "a#", `"a"`, "abcdefghijklmn_01", times("a", 1<<16)} {
		if Word(s) {
			t.Errorf("%s is a name", short(s))
		}
	}
}

// A text is a name just if it is a name and the end for Lex, with nothing around it.
func TestWordIsLex(t *testing.T) {
	r := newRand(4)
	letters := "ab_09 Z#\n\""
	for range 50000 {
		b := make([]byte, r.IntN(4))
		for i := range b {
			b[i] = letters[r.IntN(len(letters))]
		}
		s := string(b)
		l, _, _ := Lex(s)
		if want := len(l) == 2 && l[0] == name(s, 0); Word(s) != want {
			t.Fatalf("%q: %v", s, !want)
		}
	}
}

// P6.2

func randomPlain(r *rand.Rand) string {
	b := make([]byte, pick(r, []int{r.IntN(8), r.IntN(257), 256}))
	for i := range b {
		b[i] = byte(0x20 + r.IntN(0x5f))
		if r.IntN(4) == 0 {
			b[i] = pick(r, []byte{'"', '\\'})
		}
	}
	return string(b)
}

func TestThereAndBack(t *testing.T) {
	r := newRand(5)
	for range 5000 {
		s := randomPlain(r)
		q := Quote(s)
		if !Plain(s) {
			t.Fatalf("%s isn't plain", short(s))
		}
		wantTokens(t, q, text(s, 0), end(len(q)))
		wantTokens(t, q+q, text(s, 0), text(s, len(q)), end(2*len(q)))
	}
	wantTokens(t, Quote(""), text("", 0), end(2))
}

func TestNotPlainIsRefused(t *testing.T) {
	r := newRand(6)
	for range 5000 {
		s := randomPlain(r)
		at := r.IntN(len(s) + 1)
		s = s[:at] + pick(r, []string{"\n", "\t", "\x00", "\x1f", "\x7f", "\x80", "\xff"}) + s[at:]
		wantFault(t, Quote(s), len(Quote(s[:at]))-1, api.ErrToken)
	}
	for n := 257; n < 600; n++ {
		wantFault(t, Quote(times("\"", n)), 0, api.ErrLong)
	}
}

// P6.3: gaps are put ahead of tokens, and behind them.

func randomGap(r *rand.Rand) string {
	var b strings.Builder
	for range r.IntN(4) {
		b.WriteString(pick(r, []string{" ", "\n", "\t", "\n\n", "#\n", "# a note \" & 07\n", "##\x00\xff\n"}))
	}
	return b.String()
}

func TestGapsChangePlacesAlone(t *testing.T) {
	r := newRand(7)
	for range 5000 {
		s := randomText(r, false)
		before, _, e := Lex(s)
		if e != api.OK {
			continue // a number and another one right behind it, or a name that grew too long
		}
		var b strings.Builder
		var want []api.Token
		from := 0
		for _, tok := range before {
			b.WriteString(s[from:tok.At] + randomGap(r))
			from = tok.At
			tok.At = b.Len()
			want = append(want, tok)
			b.WriteString(s[from : from+size(tok)])
			from += size(tok)
			if tok.Kind != api.TEnd {
				b.WriteString(randomGap(r))
			}
		}
		if b.Len() <= api.MaxSource {
			wantTokens(t, b.String(), want...)
		}
	}
}

func TestGapsAheadAndBehind(t *testing.T) {
	for _, gap := range []string{"", " ", "\n", "\t", "#\n", " # a\n ", "#1\n#2\n", times(" ", 3000)} {
		n := len(gap)
		wantTokens(t, gap+"a"+gap+"=="+gap+"1"+gap+`"b"`+gap,
			name("a", n), mark("==", 2*n+1), num("1", 1, 3*n+3), text("b", 4*n+4), end(5*n+7))
	}
	wantTokens(t, "a # up to the end", name("a", 0), end(17))
	wantTokens(t, "a#", name("a", 0), end(2))
}

// size answers how many bytes a token has in a source.
func size(t api.Token) int {
	if t.Kind == api.TText {
		return len(Quote(t.Text))
	}
	return len(t.Text)
}

// P6.4

func TestTokensRise(t *testing.T) {
	r := newRand(8)
	right := 0
	for range 10000 {
		s := randomText(r, true)
		l, _, e := Lex(s)
		if e != api.OK {
			continue
		}
		right++
		from := 0
		for i, tok := range l {
			if tok.At < from || !onlyGap.MatchString(s[from:tok.At]) {
				t.Fatalf("%s: token %d at %d, behind %d", short(s), i, tok.At, from)
			}
			if (tok.Kind == api.TEnd) != (i == len(l)-1) {
				t.Fatalf("%s: an end in the midst, or none", short(s))
			}
			from = tok.At + size(tok)
		}
		if from != len(s) {
			t.Fatalf("%s: the end is at %d", short(s), from)
		}
	}
	if right < 2000 {
		t.Errorf("only %d texts are right", right)
	}
}

// P6.5

// share tells whether two texts share memory.
func share(a, b string) bool {
	if a == "" || b == "" {
		return false
	}
	p, q := uintptr(unsafe.Pointer(unsafe.StringData(a))), uintptr(unsafe.Pointer(unsafe.StringData(b)))
	return p < q+uintptr(len(b)) && q < p+uintptr(len(a))
}

func TestNewMemory(t *testing.T) {
	s := string([]byte(`abc 12 "x\"y" "plain" == ( z`))
	first, _, _ := Lex(s)
	for i, tok := range first {
		if share(tok.Text, s) {
			t.Errorf("token %d shares the source's memory", i)
		}
		for k := range i {
			if share(tok.Text, first[k].Text) {
				t.Errorf("tokens %d and %d share memory", i, k)
			}
		}
	}
	want := slices.Clone(first)
	second, _, _ := Lex(s)
	for i := range first {
		first[i] = api.Token{Kind: 99, Text: "gone", Num: -1, At: -1}
	}
	_ = append(first, first...)
	if third, _, _ := Lex(s); !slices.Equal(second, want) || !slices.Equal(third, want) {
		t.Error("an answer shares memory with another one")
	}
}

func TestQuoteNewMemory(t *testing.T) {
	for _, s := range []string{"abc", "", `"`} {
		if a, b := Quote(s), Quote(s); share(a, b) || share(a, s) {
			t.Errorf("%q: shared", s)
		}
	}
}

// A fault leaves nothing behind: what was answered ahead of it is answered again.
func TestNothingIsKept(t *testing.T) {
	for range 3 {
		wantFault(t, "a &", 2, api.ErrToken)
		wantTokens(t, "a &&", name("a", 0), mark("&&", 2), end(4))
		wantFault(t, times("(", 4096), 4096, api.ErrMany)
		wantTokens(t, "", end(0))
	}
}
