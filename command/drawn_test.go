package command

import (
	"math/rand"
	"slices"
	"strings"
	"testing"

	"overhaul/api"
	"overhaul/token"
)

// grammar of commands: what each sign that is not in small letters may be. A sign is matched as it is, if it stands for nothing.
func grammar() map[string][]string {
	return map[string][]string{
		"S": {"create table N ( CS )", "drop table N", "alter table N add C default V", "alter table N drop N", "alter table N rename N to N",
			"alter table N retype N KIND", "alter table N rename to N", "create index N on N ( N )", "drop index N", "insert into N values ( VS )",
			"delete from N WHERE", "update N set N = E WHERE", "select FIELDS from N WHERE ORDER LIMIT", "begin", "commit", "rollback"},
		"CS": {"C", "C , CS"}, "C": {"N KIND"}, "KIND": {"int", "text", "bool"}, "VS": {"V", "V , VS"},
		"V":     {"NUMBER", "- ABOVE", "TEXT", "true", "false", "null"},
		"WHERE": {"", "where E"}, "FIELDS": {"*", "NS"}, "NS": {"N", "N , NS"}, "ORDER": {"", "order by N"}, "LIMIT": {"", "limit NUMBER"},
		"E":  {"V", "N", "not E", "( E is null )", "( E OP E )"},
		"OP": {"and", "or", "+", "-", "||", "<", "="},
	}
}

// reader by the grammar alone, all ways at once: how far it came tells which token can't stand.
type reader struct {
	rules  map[string][]string
	tokens []api.Token
	far    int
	memo   map[way][]int
}

type way struct {
	sign     string
	at, deep int
}

// ends: where what a sign stands for may end, that begins at a token.
func (r *reader) ends(sign string, at, deep int) []int {
	key := way{sign, at, deep}
	if l, ok := r.memo[key]; ok {
		return l
	}
	var l []int
	forms, stands := r.rules[sign]
	if !stands {
		r.far = max(r.far, at)
		if at < len(r.tokens) && matches(sign, r.tokens[at]) {
			l = []int{at + 1}
		}
	}
	for i, form := range forms {
		inner := deep
		if sign == "E" {
			inner++
			if deep == 60 && i > 1 {
				continue
			}
		}
		l = append(l, r.behind(strings.Fields(form), at, inner)...)
	}
	slices.Sort(l)
	l = slices.Compact(l)
	r.memo[key] = l
	return l
}

func (r *reader) behind(signs []string, at, deep int) []int {
	ways := []int{at}
	for _, sign := range signs {
		var next []int
		for _, at := range ways {
			next = append(next, r.ends(sign, at, deep)...)
		}
		ways = next
	}
	return ways
}

func matches(sign string, t api.Token) bool {
	switch sign {
	case "N":
		return t.Kind == api.TokenName && !slices.Contains(theWords(), t.Text)
	case "NUMBER":
		return t.Kind == api.TokenNumber
	case "ABOVE":
		return t.Kind == api.TokenNumber && t.Text != "0"
	case "TEXT":
		return t.Kind == api.TokenText
	}
	return t.Text == sign
}

// readByGrammar: does it say that a text is of a form; if not, where?
func readByGrammar(s string) (int, bool) {
	l, _, _ := token.Scan(s)
	r := &reader{rules: grammar(), tokens: l, memo: map[way][]int{}}
	ends := r.ends("S", 0, 0)
	if slices.Contains(ends, len(l)) {
		return 0, true
	}
	for _, end := range ends {
		r.far = max(r.far, end)
	}
	if r.far == len(l) {
		return len(s), false
	}
	return l[r.far].At, false
}

// drawnText of a sign, by the grammar.
func drawnText(r *rand.Rand, sign string, deep int) string {
	forms, stands := grammar()[sign]
	switch {
	case sign == "N":
		return []string{"a", "b", "e", "bird", "abcdefghijkl", "z9"}[r.Intn(6)]
	case sign == "NUMBER":
		return []string{"0", "1", "42", "999999999"}[r.Intn(4)]
	case sign == "ABOVE":
		return []string{"1", "999999999"}[r.Intn(2)]
	case sign == "TEXT":
		return []string{"''", "'a'", "'true'", "'a (b, c)'", "'abcdefghijklmnopqrst'"}[r.Intn(5)]
	case !stands:
		return sign
	case sign == "E" && (deep > 12 || r.Intn(3) == 0):
		forms = forms[:2]
	}
	var out []string
	for _, part := range strings.Fields(forms[r.Intn(len(forms))]) {
		out = append(out, drawnText(r, part, deep+1))
	}
	return strings.Join(out, " ")
}

// spoilt: a text with a token gone, doubled, changed, or with its end gone.
func spoilt(r *rand.Rand, s string) string {
	l := strings.Split(s, " ")
	at := r.Intn(len(l))
	switch r.Intn(5) {
	case 0:
		l = slices.Delete(l, at, at+1)
	case 1:
		l = slices.Insert(l, at, l[at])
	case 2:
		l = l[:at]
	case 3:
		l[at] = anyToken(r)
	case 4:
		l = slices.Insert(l, at, anyToken(r))
	}
	return strings.Join(l, []string{" ", "  ", "\n"}[r.Intn(3)])
}

func anyToken(r *rand.Rand) string {
	l := append(theWords(), "a", "b", "0", "7", "''", "'a'", "||", "(", ")", ",", ";", "*", "=", "<", "+", "-")
	return l[r.Intn(len(l))]
}

func TestC1AndC2AsTheGrammarTells(t *testing.T) {
	r := rand.New(rand.NewSource(3))
	right, wrong := 0, 0
	for range 20000 {
		s := drawnText(r, "S", 0)
		for range r.Intn(3) {
			s = spoilt(r, s)
		}
		if _, _, e := token.Scan(s); e != api.OK {
			continue
		}
		wantAt, isOne := readByGrammar(s)
		c, at, e := Parse(s)
		switch {
		case !isOne && (at != wantAt || e != api.ErrForm || !same(c, api.Cmd{})):
			t.Fatalf("Parse(%q) = %+v, %d, %d; want %d, %d", s, c, at, e, wantAt, api.ErrForm)
		case isOne && (at != 0 || e != api.OK && e != api.ErrMany || Check(c) != api.OK != (e != api.OK)):
			t.Fatalf("Parse(%q) = %+v, %d, %d; it is of a form", s, c, at, e)
		case isOne && e == api.OK:
			right++
		default:
			wrong++
		}
	}
	if right < 3000 || wrong < 3000 {
		t.Errorf("%d right, %d wrong: too few", right, wrong)
	}
}

// written: a text of all that its kind names, whatever stands there; to be held against Check.
func written(c api.Cmd) string {
	column := func(c api.Column) string {
		return c.Name + " " + map[int]string{api.TypeInt: "int", api.TypeText: "text", api.TypeBool: "bool"}[c.Type]
	}
	where := " where " + writtenExpr(c.Where)
	if c.All {
		where = ""
	}
	altered := "alter table " + c.Name
	switch c.Kind {
	case api.CmdCreate:
		return "create table " + c.Name + " (" + joined(c.Columns, column) + ")"
	case api.CmdDrop:
		return "drop table " + c.Name
	case api.CmdAdd:
		return altered + " add " + column(api.Column{Name: c.Column, Type: c.Type}) + " default " + quoted(c.Value)
	case api.CmdTake:
		return altered + " drop " + c.Column
	case api.CmdColumn:
		return altered + " rename " + c.Column + " to " + c.Other
	case api.CmdRetype:
		return altered + " retype " + column(api.Column{Name: c.Column, Type: c.Type})
	case api.CmdTable:
		return altered + " rename to " + c.Other
	case api.CmdIndex:
		return "create index " + c.Name + " on " + c.Other + " (" + c.Column + ")"
	case api.CmdUnindex:
		return "drop index " + c.Name
	case api.CmdInsert:
		return "insert into " + c.Name + " values (" + joined(c.Values, quoted) + ")"
	case api.CmdDelete:
		return "delete from " + c.Name + where
	case api.CmdUpdate:
		return "update " + c.Name + " set " + c.Column + " = " + writtenExpr(c.Expr) + where
	case api.CmdSelect:
		return writtenSelect(c, where)
	}
	return map[int]string{api.CmdBegin: "begin", api.CmdCommit: "commit", api.CmdRollback: "rollback"}[c.Kind]
}

func writtenSelect(c api.Cmd, where string) string {
	s := "select " + joined(c.Fields, func(s string) string { return s })
	if len(c.Fields) == 0 {
		s += "*"
	}
	s += " from " + c.Name + where
	if c.Order != "" {
		s += " order by " + c.Order
	}
	if c.Limit != -1 {
		s += " limit " + quoted(number(c.Limit))
	}
	return s
}

func writtenExpr(e api.Expr) string {
	switch {
	case e.Kind == api.ExprValue:
		return quoted(e.Value)
	case e.Kind == api.ExprColumn:
		return e.Name
	case e.Kind == api.ExprNot && len(e.Args) == 1:
		return "not " + writtenExpr(e.Args[0])
	case e.Kind == api.ExprNull && len(e.Args) == 1:
		return "(" + writtenExpr(e.Args[0]) + " is null)"
	case len(e.Args) == 2:
		signs := map[int]string{api.ExprAnd: "and", api.ExprOr: "or", api.ExprAdd: "+", api.ExprSub: "-", api.ExprCat: "||", api.ExprLess: "<", api.ExprSame: "="}
		return "(" + writtenExpr(e.Args[0]) + " " + signs[e.Kind] + " " + writtenExpr(e.Args[1]) + ")"
	}
	return ""
}

func joined[T any](l []T, one func(T) string) string {
	var out []string
	for _, x := range l {
		out = append(out, one(x))
	}
	return strings.Join(out, ", ")
}

// drawnExpr, mostly a right one.
func drawnExpr(r *rand.Rand, deep int) api.Expr {
	e := api.Expr{Kind: 1 + r.Intn(11)}
	if deep > 3 || r.Intn(3) == 0 {
		e.Kind = 1 + r.Intn(2)
	}
	if r.Intn(60) == 0 {
		e.Kind = r.Intn(14) - 1
	}
	if e.Kind == api.ExprValue || r.Intn(100) == 0 {
		e.Value = drawnValue(r)
	}
	if e.Kind == api.ExprColumn || r.Intn(100) == 0 {
		e.Name = drawnName(r)
	}
	many := 2
	switch e.Kind {
	case api.ExprValue, api.ExprColumn:
		many = 0
	case api.ExprNot, api.ExprNull:
		many = 1
	}
	if r.Intn(60) == 0 {
		many = r.Intn(4)
	}
	for range many {
		e.Args = append(e.Args, drawnExpr(r, deep+1))
	}
	return e
}

func drawnName(r *rand.Rand) string {
	if r.Intn(60) == 0 {
		return []string{"", "A", "a b", "to", "null", "1", "'a'", "abcdefghijklm", "*", "a, b", "t where a"}[r.Intn(11)]
	}
	return []string{"a", "b", "bird", "abcdefghijkl", "z9"}[r.Intn(5)]
}

func drawnValue(r *rand.Rand) api.Value {
	l := []api.Value{{}, number(0), number(-7), number(api.MaxInt), number(-api.MaxInt), text(""), text("a"), text("abcdefghijklmnopqrst"), truth(0), truth(1)}
	if r.Intn(40) == 0 {
		l = wrongValues()
	}
	return l[r.Intn(len(l))]
}

// drawnCmd: mostly what its kind names, but not always.
func drawnCmd(r *rand.Rand) api.Cmd {
	c := api.Cmd{Kind: r.Intn(17)}
	names := func(kinds ...int) bool { return slices.Contains(kinds, c.Kind) != (r.Intn(150) == 0) }
	if c.Kind < api.CmdBegin != (r.Intn(150) == 0) {
		c.Name = drawnName(r)
	}
	if names(api.CmdColumn, api.CmdTable, api.CmdIndex) {
		c.Other = drawnName(r)
	}
	if names(api.CmdAdd, api.CmdTake, api.CmdColumn, api.CmdRetype, api.CmdIndex, api.CmdUpdate) {
		c.Column = drawnName(r)
	}
	if names(api.CmdCreate) {
		for range r.Intn(7) {
			c.Columns = append(c.Columns, api.Column{Name: drawnName(r), Type: 1 + r.Intn(3+1/(1+r.Intn(20)))})
		}
	}
	if names(api.CmdAdd, api.CmdRetype) {
		c.Type = 1 + r.Intn(3+1/(1+r.Intn(20)))
	}
	if names(api.CmdAdd) {
		c.Value = drawnValue(r)
	}
	if names(api.CmdInsert) {
		for range r.Intn(7) {
			c.Values = append(c.Values, drawnValue(r))
		}
	}
	if names(api.CmdSelect) {
		for range r.Intn(7) {
			c.Fields = append(c.Fields, drawnName(r))
		}
	}
	if names(api.CmdUpdate) {
		c.Expr = drawnExpr(r, 0)
	}
	if names(api.CmdDelete, api.CmdUpdate, api.CmdSelect) {
		c.All = r.Intn(2) == 0
		if c.All == (r.Intn(40) == 0) {
			c.Where = drawnExpr(r, 0)
		}
	}
	if names(api.CmdSelect) {
		c.Order = []string{"", drawnName(r)}[r.Intn(2)]
		c.Limit = []int{-1, 0, 7, 999999999, -2, 1000000000}[r.Intn(4+2/(1+r.Intn(20)))]
	}
	return c
}

// Check answers OK just where a text says that it is such a command.
func TestC4CheckedAreCommandsOfTexts(t *testing.T) {
	r := rand.New(rand.NewSource(4))
	right, wrong := 0, 0
	for range 60000 {
		c := drawnCmd(r)
		s := written(c)
		d, _, e := Parse(s)
		isOne := e == api.OK && same(c, d)
		if f := Check(c); (f == api.OK) != isOne {
			t.Fatalf("Check(%+v) = %d; its text %q is parsed as %+v, %d", c, f, s, d, e)
		}
		if e == api.OK && Check(d) != api.OK {
			t.Fatalf("Parse(%q) = %+v, which does not pass Check", s, d)
		}
		if isOne {
			right++
		} else {
			wrong++
		}
	}
	if right < 10000 || wrong < 10000 {
		t.Errorf("%d right, %d wrong: too few", right, wrong)
	}
}
