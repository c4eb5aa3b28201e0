package parse_test

import (
	"strings"

	"interlock/api"
	"interlock/diag"
	"interlock/lex"
)

// What the chapter says, written down a second time and by other means than the package's own, for the tests to hold the package against: its grammar as it stands there, and a machine that goes through any grammar by keeping all ways that are open.

// chapterGrammar has two marks more than the chapter's: > ahead of a token that opens a block, a bracket or a sign, < behind where that ends.
const chapterGrammar = `
program = { "table" name "(" name { "," name } ")" ";" | proc } end .
proc    = "proc" name "(" [ name { "," name } ] ")" [ "single" ] block .
block   = > "{" { stmt } "}" < .
stmt    = "read" name "=" row "." name [ "for" "update" ] ";"
        | "set" row "." name "=" expr ";"
        | "put" row "(" expr { "," expr } ")" ";"
        | "delete" row ";"
        | "scan" name "=" name "." name ";"
        | "lock" name ( "shared" | "all" ) ";"
        | "release" name [ > "[" expr "]" < ] ";"
        | "if" expr ( "<" | "==" ) expr block [ "else" block ]
        | "for" name "=" number "to" number block
        | "let" name "=" expr ";" | "emit" expr ";" | "rollback" ";" | "chop" ";" .
row     = name > "[" expr "]" < .
expr    = term { ( "+" | "-" ) term } .
term    = factor { "*" factor } .
factor  = number | name | > "(" expr ")" < | > "-" factor < .
`

// form is a piece of a grammar.
type form struct {
	what formKind
	text string
	of   []*form
}

type formKind int

const (
	literal  formKind = iota // a token of that text
	kind                     // a token of that kind: name, number, end
	rule                     // what the rule of that name says
	inTurn                   // one of each, in turn
	oneOf                    // one of them
	anyOften                 // any number of the one
	maybe                    // the one, or none
	opens                    // the next token opens something
	closes                   // what was opened last ends
)

type grammar map[string]*form

var chapter = readGrammar(chapterGrammar)

// grammarReader goes through a grammar's words, between which blanks stand.
type grammarReader struct {
	words []string
}

func readGrammar(text string) grammar {
	r := &grammarReader{strings.Fields(text)}
	g := grammar{}
	for len(r.words) > 0 {
		name := r.word()
		r.want("=")
		g[name] = r.choice()
		r.want(".")
	}
	return g
}

func (r *grammarReader) word() string {
	w := r.words[0]
	r.words = r.words[1:]
	return w
}

func (r *grammarReader) want(word string) {
	if w := r.word(); w != word {
		panic("the grammar has " + w + " where " + word + " is wanted")
	}
}

func (r *grammarReader) choice() *form {
	f := &form{what: oneOf, of: []*form{r.sequence()}}
	for r.words[0] == "|" {
		r.word()
		f.of = append(f.of, r.sequence())
	}
	return f
}

func (r *grammarReader) sequence() *form {
	f := &form{what: inTurn}
	for !strings.Contains(" | ) ] } . ", " "+r.words[0]+" ") {
		f.of = append(f.of, r.piece())
	}
	return f
}

func (r *grammarReader) piece() *form {
	switch w := r.word(); {
	case w == "{":
		return r.inside(anyOften, "}")
	case w == "[":
		return r.inside(maybe, "]")
	case w == "(":
		return r.inside(inTurn, ")")
	case w == ">":
		return &form{what: opens}
	case w == "<":
		return &form{what: closes}
	case w[0] == '"':
		return &form{what: literal, text: strings.Trim(w, `"`)}
	case w == "name" || w == "number" || w == "end":
		return &form{what: kind, text: w}
	default:
		return &form{what: rule, text: w}
	}
}

func (r *grammarReader) inside(what formKind, closing string) *form {
	f := &form{what: what, of: []*form{r.choice()}}
	r.want(closing)
	return f
}

// rest is what has to come yet.
type rest struct {
	head *form
	tail *rest
}

// way is one that is open: what has to come yet, within how many that are opened, and whether the next token opens one.
type way struct {
	rest    *rest
	open    int
	opening bool
}

// toTokens gives all ways on from w that begin with a token.
func (g grammar) toTokens(w way, give func(w way)) {
	if w.rest == nil {
		return
	}
	f, tail := w.rest.head, w.rest.tail
	further := func(r *rest) { g.toTokens(way{r, w.open, w.opening}, give) }
	switch f.what {
	case literal, kind:
		give(w)
	case rule:
		further(&rest{g[f.text], tail})
	case inTurn:
		for i := len(f.of) - 1; i >= 0; i-- {
			tail = &rest{f.of[i], tail}
		}
		further(tail)
	case oneOf:
		for _, one := range f.of {
			further(&rest{one, tail})
		}
	case anyOften:
		further(tail)
		further(&rest{f.of[0], w.rest})
	case maybe:
		further(tail)
		further(&rest{f.of[0], tail})
	case opens:
		g.toTokens(way{tail, w.open, true}, give)
	case closes:
		g.toTokens(way{tail, w.open - 1, w.opening}, give)
	}
}

func fits(f *form, token lex.Token) bool {
	switch {
	case f.what == literal:
		return f.text == token.Text
	case f.text == "name":
		return token.Kind == lex.Name
	case f.text == "number":
		return token.Kind == lex.Number
	}
	return token.Kind == lex.End
}

// step goes on by a token: the ways that are left, and whether there was one that would have become too deep.
func (g grammar) step(ways []way, token lex.Token) (left []way, tooDeep bool) {
	for _, w := range ways {
		g.toTokens(w, func(w way) {
			switch {
			case !fits(w.rest.head, token):
			case w.opening && w.open == 64:
				tooDeep = true
			case w.opening:
				left = append(left, way{w.rest.tail, w.open + 1, false})
			default:
				left = append(left, way{w.rest.tail, w.open, false})
			}
		})
	}
	return left, tooDeep
}

func (g grammar) start() []way { return []way{{rest: &rest{head: g["program"]}}} }

// verdict is what Parse is to say of a source: a number, and where.
func verdict(src []byte) (e api.Errno, at int) {
	tokens, err := lex.Lex(src)
	if err != nil {
		at, _, _, _ := diag.Place(err)
		return diag.Code(err), at
	}
	ways := chapter.start()
	for _, token := range tokens {
		left, tooDeep := chapter.step(ways, token)
		switch {
		case len(left) > 1 || tooDeep && len(left) > 0:
			panic("the grammar goes on in two ways: the tests are not worth much")
		case tooDeep:
			return api.ErrDeep, token.At
		case len(left) == 0:
			return api.ErrSyntax, token.At
		}
		ways = left
	}
	return api.OK, 0
}

// ending is a shortest row of tokens with which a source, whose tokens are these without the end, becomes one of the grammar; false, if there is none.
func ending(tokens []lex.Token) ([]string, bool) {
	ways := chapter.start()
	for _, token := range tokens {
		ways, _ = chapter.step(ways, token)
	}
	if len(ways) == 0 {
		return nil, false
	}
	var texts []string
	for r := ways[0].rest; r != nil; r = r.tail {
		more, _ := chapter.shortest(r.head, 6)
		texts = append(texts, more...)
	}
	return texts, true
}

// shortest follows rules within one another only so far: whatever goes further is longer.
func (g grammar) shortest(f *form, further int) (texts []string, ok bool) {
	switch f.what {
	case literal:
		return []string{f.text}, true
	case kind:
		return map[string][]string{"name": {"a"}, "number": {"1"}}[f.text], true
	case rule:
		if further == 0 {
			return nil, false
		}
		return g.shortest(g[f.text], further-1)
	case oneOf:
		for _, one := range f.of {
			if more, can := g.shortest(one, further); can && (!ok || len(more) < len(texts)) {
				texts, ok = more, true
			}
		}
		return texts, ok
	case inTurn:
		for _, one := range f.of {
			more, can := g.shortest(one, further)
			if !can {
				return nil, false
			}
			texts = append(texts, more...)
		}
	}
	return texts, true
}

// words are the grammar's tokens that are names, marks those that are none.
func (g grammar) words() []string { return g.literals(true) }
func (g grammar) marks() []string { return g.literals(false) }

func (g grammar) literals(names bool) []string {
	var all []string
	had := map[string]bool{}
	for _, w := range strings.Fields(chapterGrammar) {
		text := strings.Trim(w, `"`)
		if w[0] == '"' && lex.IsName(text) == names && !had[text] {
			had[text] = true
			all = append(all, text)
		}
	}
	return all
}
