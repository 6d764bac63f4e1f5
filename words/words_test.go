package words

import (
	"math"
	"strings"
	"testing"

	"overhaul/api"
)

func TestC1Names(t *testing.T) {
	for _, s := range []string{"a", "z", "e", "a1", "a1b2", "abcdefghijkl", "tables", "able", "creat", "o"} {
		if !IsName(s) {
			t.Errorf("%q is a name", s)
		}
	}
	for _, s := range []string{"", " ", "1", "1a", "A", "aB", "a b", " a", "a ", "'a'", "*", "abcdefghijklm", strings.Repeat("a", 3000), "create", "or", "and", "int", "table drop", "create table"} {
		if IsName(s) {
			t.Errorf("%q is no name", s)
		}
	}
}

func TestC1KindsAndTheirWords(t *testing.T) {
	for kind, word := range map[int]string{api.TypeInt: "int", api.TypeText: "text", api.TypeBool: "bool"} {
		if Type(word) != kind || OfType(kind) != word {
			t.Errorf("%q is of %d, and of %d is %q", word, Type(word), kind, OfType(kind))
		}
	}
	for kind, word := range map[int]string{api.ExprAnd: "and", api.ExprOr: "or", api.ExprAdd: "+", api.ExprSub: "-", api.ExprCat: "||", api.ExprLess: "<", api.ExprSame: "="} {
		if Operator(word) != kind || OfOperator(kind) != word {
			t.Errorf("%q is of %d, and of %d is %q", word, Operator(word), kind, OfOperator(kind))
		}
	}
	for _, word := range []string{"", "null", "Int", "not", ">", "(", "is"} {
		if Type(word) != 0 || Operator(word) != 0 {
			t.Errorf("%q is of no kind", word)
		}
	}
	for _, kind := range []int{math.MinInt, -1, 0, 4, math.MaxInt} {
		if OfType(kind) != "" {
			t.Errorf("of %d there is no word", kind)
		}
	}
	for _, kind := range []int{math.MinInt, -1, 0, api.ExprValue, api.ExprColumn, api.ExprNot, api.ExprNull, 12, math.MaxInt} {
		if OfOperator(kind) != "" {
			t.Errorf("of %d there is no sign", kind)
		}
	}
}
