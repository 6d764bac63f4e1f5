// Package words: the words and signs of commands, which who parses, who checks and who shows have in common.
package words

import (
	"slices"
	"strings"

	"overhaul/api"
	"overhaul/token"
)

// taken: the words that stand in the forms of commands, and so are no names; a blank on both sides of each, so that no part of one is found.
const taken = " create table drop alter add default rename to retype index on insert into values delete from where update set" +
	" select order by limit begin commit rollback int text bool true false null not is and or "

// IsName: may a text stand where a name must?
func IsName(s string) bool {
	_, e := token.Join([]api.Token{{Kind: api.TokenName, Text: s}})
	return e == api.OK && !strings.Contains(taken, " "+s+" ")
}

// Type is the kind of columns that a word names; 0, if it names none.
func Type(word string) int { return place(types(), word) }

// OfType is the word of a kind of columns; empty, if there is no such kind.
func OfType(kind int) string { return at(types(), kind) }

// Operator is the kind of expressions of two whose word or sign it is; 0, if it is of none.
func Operator(word string) int { return place(operators(), word) }

// OfOperator is the word or sign of a kind of expressions of two; empty, if there is no such kind.
func OfOperator(kind int) string { return at(operators(), kind) }

// types: the word of each kind of columns, at its number.
func types() []string {
	return []string{api.TypeInt: "int", api.TypeText: "text", api.TypeBool: "bool"}
}

// operators: the word or sign of each kind of expressions of two, at its number.
func operators() []string {
	return []string{
		api.ExprAnd: "and", api.ExprOr: "or", api.ExprAdd: "+", api.ExprSub: "-",
		api.ExprCat: "||", api.ExprLess: "<", api.ExprSame: "=",
	}
}

// place of a word; what is not there is at 0, where no kind is.
func place(l []string, word string) int {
	return max(0, slices.Index(l, word))
}

func at(l []string, kind int) string {
	if kind < 0 || kind >= len(l) {
		return ""
	}
	return l[kind]
}
