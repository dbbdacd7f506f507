package parse

import (
	"fmt"
	"slices"
	"strings"

	"quern/api"
	"quern/lex"
)

// The plain parser is the chapter's table itself, as a text: of each token all ways in which the table could go on are gone, and those that it can't stand in are dropped.
// A ' behind a part says that it is one deeper than the part in which it stands.
const table = `
program   is "version" number ";" { item } end
item      is "state" slot ";" ; "fn" function ; "on" function
slot      is NAME ":" type'
function  is NAME "(" [ slot { "," slot } ] ")" ":" type' block'
type      is "int" ; "bool" ; "text" ; "[" type' "]" ; "{" key ":" type' "}"
key       is "int" ; "text"
block     is "{" { statement } "}"
statement is "let" NAME "=" expr' ";" ; "set" NAME [ "[" expr' "]" ] "=" expr' ";" ; "del" NAME "[" expr' "]" ";" ; "if" expr' block' [ "else" block' ] ; "for" NAME "to" expr' block' ; "ret" expr' ";"
expr      is or
or        is and { "||" and }
and       is compare { "&&" compare }
compare   is sum [ ( "==" ; "!=" ; "<" ; "<=" ; ">" ; ">=" ) sum ]
sum       is product { ( "+" ; "-" ) product }
product   is unary { ( "*" ; "/" ; "%" ) unary }
unary     is "-" unary' ; "!" unary' ; primary { "[" expr' "]" }
primary   is number ; text ; "true" ; "false" ; "(" expr' ")" ; NAME ; NAME "(" [ expr' { "," expr' } ] ")"
`

const reservedWords = "version state fn on let set del if else for to ret true false int bool text"

var reservedList = strings.Fields(reservedWords)

// The kinds of what stands in the table.
const (
	itself = iota // in quotes
	sort          // of a token: number, text, NAME, end
	part          // another line's
	once          // ( ): one of several
	maybe         // [ ]
	often         // { }
)

// piece is what stands in the table: its kind; its word; whether it is one deeper; of brackets the choices in them.
type piece struct {
	kind    int
	word    string
	deeper  bool
	choices [][]*piece
}

var rules = readTable()

func readTable() map[string][][]*piece {
	out := map[string][][]*piece{}
	for line := range strings.Lines(strings.TrimSpace(table)) {
		words := strings.Fields(line)
		rest := words[2:]
		out[words[0]] = readChoices(&rest)
	}
	return out
}

// readChoices takes words up to a closing bracket, or all.
func readChoices(rest *[]string) [][]*piece {
	out := [][]*piece{nil}
	for len(*rest) > 0 {
		w := (*rest)[0]
		*rest = (*rest)[1:]
		var p *piece
		switch {
		case strings.Contains(") ] }", w):
			return out
		case w == ";":
			out = append(out, nil)
			continue
		case w == "(":
			p = &piece{kind: once, choices: readChoices(rest)}
		case w == "[":
			p = &piece{kind: maybe, choices: readChoices(rest)}
		case w == "{":
			p = &piece{kind: often, choices: readChoices(rest)}
		case w[0] == '"':
			p = &piece{kind: itself, word: w[1 : len(w)-1]}
		case slices.Contains([]string{"number", "text", "NAME", "end"}, w):
			p = &piece{kind: sort, word: w}
		default:
			bare := strings.TrimSuffix(w, "'")
			p = &piece{kind: part, word: bare, deeper: bare != w}
		}
		out[len(out)-1] = append(out[len(out)-1], p)
	}
	return out
}

// tree is a part that was found, or (without a part) a token of it; from and to are the numbers of its tokens.
type tree struct {
	part     string
	token    api.Token
	kids     []*tree
	from, to int
}

// event is something on the way: a part begins, a part ends (both empty), a token.
type event struct {
	begins string
	token  api.Token
	ahead  *event
}

// plan is what must still come: a piece within a part of this depth (or none: the part's end), and what is behind it.
type plan struct {
	piece  *piece
	depth  int
	behind *plan
}

type way struct {
	plan *plan
	done *event
}

// row lays pieces ahead of a plan.
func row(pieces []*piece, depth int, behind *plan) *plan {
	for _, p := range slices.Backward(pieces) {
		behind = &plan{p, depth, behind}
	}
	return behind
}

func (p *piece) stands(t api.Token) bool {
	switch {
	case p.kind == itself:
		return (t.Kind == api.TName || t.Kind == api.TMark) && t.Text == p.word
	case p.word == "number":
		return t.Kind == api.TInt
	case p.word == "text":
		return t.Kind == api.TText
	case p.word == "NAME":
		return t.Kind == api.TName && !slices.Contains(reservedList, t.Text)
	}
	return t.Kind == api.TEnd
}

func tooDeep(part string, depth int) bool {
	switch part {
	case "type":
		return depth > 4
	case "block", "expr", "unary":
		return depth > 24
	}
	return false
}

// follow notes all ways in which the token can stand, and whether something too deep could begin with it.
func (w way) follow(t api.Token, out *[]way, deep *bool) {
	now := w.plan
	if now == nil {
		return
	}
	if now.piece == nil {
		way{now.behind, &event{ahead: w.done}}.follow(t, out, deep)
		return
	}
	p := now.piece
	switch p.kind {
	case itself, sort:
		if p.stands(t) {
			*out = append(*out, way{now.behind, &event{token: t, ahead: w.done}})
		}
	case part:
		depth := now.depth
		if p.deeper {
			depth++
		}
		if tooDeep(p.word, depth) {
			*deep = true
			return
		}
		for _, c := range rules[p.word] {
			way{row(c, depth, &plan{behind: now.behind}), &event{begins: p.word, ahead: w.done}}.follow(t, out, deep)
		}
	case maybe, often:
		way{now.behind, w.done}.follow(t, out, deep)
		fallthrough
	case once:
		behind := now.behind
		if p.kind == often {
			behind = now
		}
		for _, c := range p.choices {
			way{row(c, now.depth, behind), w.done}.follow(t, out, deep)
		}
	}
}

// plainTree answers the tree of a text; or its first fault.
func plainTree(s string) (*tree, int, api.Errno) {
	tokens, at, e := lex.Lex(s)
	if e != api.OK {
		return nil, at, e
	}
	ways := []way{{plan: &plan{piece: &piece{kind: part, word: "program"}}}}
	for _, t := range tokens {
		var on []way
		deep := false
		for _, w := range ways {
			w.follow(t, &on, &deep)
		}
		switch {
		case len(on) > 0:
			ways = on
		case deep:
			return nil, t.At, api.ErrDeep
		default:
			return nil, t.At, api.ErrSyntax
		}
	}
	if len(ways) != 1 {
		panic(fmt.Sprintf("the table can be read in %d ways: %s", len(ways), s))
	}
	return treeOf(ways[0].done), 0, api.OK
}

// treeOf lays the events of a whole program as a tree.
func treeOf(last *event) *tree {
	var all []*event
	for ; last != nil; last = last.ahead {
		all = append(all, last)
	}
	root := &tree{}
	open := []*tree{root}
	n := 0
	for _, v := range slices.Backward(all) {
		top := open[len(open)-1]
		switch {
		case v.begins != "":
			kid := &tree{part: v.begins, from: n}
			top.kids = append(top.kids, kid)
			open = append(open, kid)
		case v.token.Kind != 0:
			top.kids = append(top.kids, &tree{token: v.token, from: n, to: n + 1})
			n++
		default:
			top.to = n
			open = open[:len(open)-1]
		}
	}
	root.kids[0].to = n // nothing is behind the end that could close the program
	return root.kids[0]
}

// plainParse answers what Parse must answer.
func plainParse(s string) (api.Prog, int, api.Errno) {
	t, at, e := plainTree(s)
	if e != api.OK {
		return api.Prog{}, at, e
	}
	return t.program(), 0, api.OK
}

// all answers the kids that are such parts.
func (t *tree) all(part string) []*tree {
	return slices.DeleteFunc(slices.Clone(t.kids), func(k *tree) bool { return k.part != part })
}

func (t *tree) program() api.Prog {
	out := api.Prog{Version: t.kids[1].token.Num}
	for _, k := range t.all("item") {
		switch word := k.kids[0].token.Text; word {
		case "state":
			out.States = append(out.States, k.kids[1].slot())
		default:
			f := k.kids[1].function()
			f.On = word == "on"
			out.Fns = append(out.Fns, f)
		}
	}
	return out
}

func (t *tree) slot() api.Slot {
	return api.Slot{Name: t.kids[0].token.Text, Type: t.kids[2].bytes(), At: t.kids[0].token.At}
}

// bytes answers all tokens' texts, without anything between.
func (t *tree) bytes() string {
	s := t.token.Text
	for _, k := range t.kids {
		s += k.bytes()
	}
	return s
}

func (t *tree) function() api.Fn {
	f := api.Fn{Name: t.kids[0].token.Text, At: t.kids[0].token.At, Result: t.all("type")[0].bytes(), Body: t.all("block")[0].block()}
	for _, k := range t.all("slot") {
		f.Params = append(f.Params, k.slot())
	}
	return f
}

func (t *tree) block() []api.Stmt {
	var out []api.Stmt
	for _, k := range t.all("statement") {
		out = append(out, k.statement())
	}
	return out
}

func (t *tree) statement() api.Stmt {
	words := []string{"let", "set", "del", "if", "for", "ret"}
	s := api.Stmt{Kind: slices.Index(words, t.kids[0].token.Text) + 1, At: t.kids[0].token.At}
	if t.kids[1].token.Kind == api.TName {
		s.Name = t.kids[1].token.Text
	}
	for _, k := range t.all("expr") {
		s.E = append(s.E, k.expr())
	}
	blocks := t.all("block")
	if len(blocks) > 0 {
		s.Body = blocks[0].block()
	}
	if len(blocks) > 1 {
		s.Else = blocks[1].block()
	}
	return s
}

func (t *tree) expr() api.Expr {
	switch t.part {
	case "expr":
		return t.kids[0].expr()
	case "unary":
		return t.unary()
	case "primary":
		return t.primary()
	}
	x := t.kids[0].expr()
	for i := 1; i < len(t.kids); i += 2 {
		mark := t.kids[i].token
		op := slices.Index(strings.Fields("|| && == != < <= > >= + - * / %"), mark.Text) + 1
		x = api.Expr{Kind: 15, Op: op, Args: []api.Expr{x, t.kids[i+1].expr()}, At: mark.At}
	}
	return x
}

func (t *tree) unary() api.Expr {
	if mark := t.kids[0].token; mark.Kind != 0 {
		kind := map[string]int{"-": 13, "!": 14}[mark.Text]
		return api.Expr{Kind: kind, Args: []api.Expr{t.kids[1].expr()}, At: mark.At}
	}
	x := t.kids[0].expr()
	for i := 1; i < len(t.kids); i += 3 {
		x = api.Expr{Kind: 12, Args: []api.Expr{x, t.kids[i+1].expr()}, At: t.kids[i].token.At}
	}
	return x
}

func (t *tree) primary() api.Expr {
	first := t.kids[0].token
	switch {
	case first.Kind == api.TInt:
		return api.Expr{Kind: 1, Num: first.Num, At: first.At}
	case first.Kind == api.TText:
		return api.Expr{Kind: 3, Text: first.Text, At: first.At}
	case first.Text == "true":
		return api.Expr{Kind: 2, Num: 1, At: first.At}
	case first.Text == "false":
		return api.Expr{Kind: 2, At: first.At}
	case first.Text == "(":
		return t.kids[1].expr()
	case len(t.kids) == 1:
		return api.Expr{Kind: 6, Text: first.Text, At: first.At}
	}
	x := api.Expr{Kind: 7, Text: first.Text, At: first.At}
	for _, k := range t.all("expr") {
		x.Args = append(x.Args, k.expr())
	}
	return x
}
