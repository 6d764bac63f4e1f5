package command

import (
	"strconv"

	"overhaul/api"
	"overhaul/words"
)

// deepest is how many others an expression may stand in.
const deepest = 60

// place of what can't stand in a text: who finds it gives up by a panic of it.
type place int

// parser of tokens: which one is next, and where their text ends.
type parser struct {
	tokens []api.Token
	at     int
	end    int
}

// parse the tokens of a text that ends at a place.
func parse(l []api.Token, end int) (c api.Cmd, at int, e api.Errno) {
	defer func() {
		// Any other panic leaves the empty command, which Check refuses: none gets out.
		if p, ok := recover().(place); ok {
			c, at, e = api.Cmd{}, int(p), api.ErrForm
		}
	}()
	p := &parser{tokens: l, end: end}
	whole := p.command()
	if p.at < len(l) {
		p.giveUp()
	}
	return whole, 0, api.OK
}

// here: the next token; behind the last one there is one without a text, at the text's end.
func (p *parser) here() api.Token {
	if p.at == len(p.tokens) {
		return api.Token{At: p.end}
	}
	return p.tokens[p.at]
}

func (p *parser) giveUp() {
	panic(place(p.here().At))
}

// may stand here: the first word; if it does, all others must stand behind it.
func (p *parser) may(first string, others ...string) bool {
	if p.here().Text != first {
		return false
	}
	p.at++
	p.must(others...)
	return true
}

// must stand here: all these words, one behind the other.
func (p *parser) must(all ...string) {
	for _, word := range all {
		if !p.may(word) {
			p.giveUp()
		}
	}
}

// oneOf these words must stand here: which one?
func (p *parser) oneOf(these ...string) string {
	for _, word := range these {
		if p.may(word) {
			return word
		}
	}
	p.giveUp()
	return ""
}

// kindOf what must stand here, as looked up by its text; 0 is none.
func (p *parser) kindOf(lookUp func(string) int) int {
	kind := lookUp(p.here().Text)
	if kind == 0 {
		p.giveUp()
	}
	p.at++
	return kind
}

func (p *parser) name() string {
	t := p.here()
	if !words.IsName(t.Text) {
		p.giveUp()
	}
	p.at++
	return t.Text
}

// number that must stand here, and may not be below the least one.
func (p *parser) number(least int) int {
	t := p.here()
	n, _ := strconv.Atoi(t.Text)
	if t.Kind != api.TokenNumber || n < least {
		p.giveUp()
	}
	p.at++
	return n
}

func (p *parser) column() api.Column {
	name := p.name()
	return api.Column{Name: name, Type: p.kindOf(words.Type)}
}

func (p *parser) value() api.Value {
	switch t := p.here(); t.Kind {
	case api.TokenNumber:
		return api.Value{Kind: api.TypeInt, N: p.number(0)}
	case api.TokenText:
		p.at++
		return api.Value{Kind: api.TypeText, S: t.Text[1 : len(t.Text)-1]}
	}
	switch p.oneOf("-", "true", "false", "null") {
	case "-":
		return api.Value{Kind: api.TypeInt, N: -p.number(1)}
	case "true":
		return api.Value{Kind: api.TypeBool, N: 1}
	case "false":
		return api.Value{Kind: api.TypeBool}
	}
	return api.Value{}
}

// expr that stands in so many others. In as many as may be, only what holds no other can stand.
func (p *parser) expr(within int) api.Expr {
	if within < deepest {
		if p.may("not") {
			return api.Expr{Kind: api.ExprNot, Args: []api.Expr{p.expr(within + 1)}}
		}
		if p.may("(") {
			return p.bracketed(within + 1)
		}
	}
	if words.IsName(p.here().Text) {
		return api.Expr{Kind: api.ExprColumn, Name: p.name()}
	}
	return api.Expr{Kind: api.ExprValue, Value: p.value()}
}

// bracketed expression, behind its bracket; what is in it stands in so many others.
func (p *parser) bracketed(within int) api.Expr {
	first := p.expr(within)
	if p.may("is", "null", ")") {
		return api.Expr{Kind: api.ExprNull, Args: []api.Expr{first}}
	}
	kind := p.kindOf(words.Operator)
	second := p.expr(within)
	p.must(")")
	return api.Expr{Kind: kind, Args: []api.Expr{first, second}}
}

// listed things, one at least, with a comma between.
func listed[T any](p *parser, one func() T) []T {
	l := []T{one()}
	for p.may(",") {
		l = append(l, one())
	}
	return l
}

// inBrackets stand listed things.
func inBrackets[T any](p *parser, one func() T) []T {
	p.must("(")
	l := listed(p, one)
	p.must(")")
	return l
}
