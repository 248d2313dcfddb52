package expr_test

import (
	"math"
	"slices"
	"strings"
	"testing"

	"rewind/api"
	"rewind/expr"
	"rewind/lexeme"
	"rewind/shape"
)

// listedAt reports an error if List does not return these expressions and this index.
func listedAt(t *testing.T, l []lexeme.Token, at, depth int, want []api.Expr, wantEnd int) {
	t.Helper()
	got, end, e := expr.List(l, at, depth)
	if !slices.EqualFunc(got, want, same) || end != wantEnd || e != api.OK {
		t.Errorf("List(%s, %d, %d) = %v, %d, %d; want %v, %d", show(l), at, depth, got, end, e, want, wantEnd)
	}
}

// noListAt reports an error if List does not return this index and this error, and no expressions.
func noListAt(t *testing.T, l []lexeme.Token, at, depth int, wantEnd int, want api.Errno) {
	t.Helper()
	got, end, e := expr.List(l, at, depth)
	if len(got) != 0 || end != wantEnd || e != want {
		t.Errorf("List(%s, %d, %d) = %v, %d, %d; want %d, %d", show(l), at, depth, got, end, e, wantEnd, want)
	}
}

// listed reports an error if all of a text is not a list of these expressions.
func listed(t *testing.T, text string, want ...api.Expr) {
	t.Helper()
	l := tokens(t, text)
	listedAt(t, l, 0, 0, want, len(l))
}

// noList reports an error if a text does not have this error at this index.
func noList(t *testing.T, text string, end int, want api.Errno) {
	t.Helper()
	noListAt(t, tokens(t, text), 0, 0, end, want)
}

// P5.2: the table of the chapter.
func TestListOfTheChapter(t *testing.T) {
	listedAt(t, tokens(t, "()"), 0, 0, nil, 2)
	listedAt(t, tokens(t, "(a, 1 + 2)"), 0, 0, exprs(a, binary(num(1), "+", num(2))), 7)
	noList(t, "(a,)", 3, api.ErrForm)
	noList(t, "a", 0, api.ErrForm)
}

// P5.2: ordinary lists.
func TestList(t *testing.T) {
	listed(t, "(a)", a)
	listed(t, "((a))", a)
	listed(t, "(a, b)", a, b)
	listed(t, "(a, a, a)", a, a, a)
	listed(t, "((a), (b))", a, b)
	listed(t, "(a[b], len(c), -d, true, false, 5)", index("a", b), length("c"), minus(d), truth(1), truth(0), num(5))
	listed(t, "(a || b, c * d - a)", binary(a, "||", b), binary(binary(c, "*", d), "-", a))
	listed(t, "(-a, -b)", minus(a), minus(b))
	listed(t, "((a) + (b), !(c))", binary(a, "+", b), not(c))
	// What stands behind the list does not matter.
	for _, behind := range []string{"", ")", "+ a", "[a]", ", b", "(", "int", "; a", "(b)"} {
		listedAt(t, tokens(t, "()"+behind), 0, 0, nil, 2)
		listedAt(t, tokens(t, "(a)"+behind), 0, 0, exprs(a), 3)
		listedAt(t, tokens(t, "(a, -b)"+behind), 0, 0, exprs(a, minus(b)), 6)
	}
	for _, x := range foreign() {
		listedAt(t, list(sign("("), sign(")"), x), 0, 0, nil, 2)
		listedAt(t, list(sign("("), name("a"), sign(")"), x), 0, 0, exprs(a), 3)
	}
}

// P5.2: as many expressions as there are.
func TestListOfMany(t *testing.T) {
	for _, n := range []int{1, 2, 8, 9, 50, 3000} {
		text := "(" + strings.Repeat("a - 1, ", n-1) + "a - 1)"
		l := tokens(t, text)
		listedAt(t, l, 0, 0, slices.Repeat(exprs(binary(a, "-", num(1))), n), len(l))
		noListAt(t, l[:len(l)-1], 0, 0, len(l)-1, api.ErrForm)
		noListAt(t, append(l[:len(l)-1:len(l)-1], sign(",")), 0, 0, len(l), api.ErrForm)
	}
}

// P5.2: an index from 0 to the number of tokens, and others; a depth below 0.
func TestListAtAnIndex(t *testing.T) {
	l := tokens(t, "f(a, (b))")
	noListAt(t, l, 0, 0, 0, api.ErrForm)
	listedAt(t, l, 1, 0, exprs(a, b), 8)
	noListAt(t, l, 2, 0, 2, api.ErrForm)
	noListAt(t, l, 3, 0, 3, api.ErrForm)
	listedAt(t, l, 4, 0, exprs(b), 7)
	noListAt(t, l, 7, 0, 7, api.ErrForm)
	noListAt(t, l, 8, 0, 8, api.ErrForm)
	for _, at := range []int{-1, -2, math.MinInt, 9, 10, math.MaxInt} {
		for _, depth := range []int{0, 40, math.MaxInt, -1} {
			noListAt(t, l, at, depth, 0, api.ErrRange)
		}
	}
	for _, depth := range []int{-1, -40, math.MinInt} {
		for at := range 9 {
			noListAt(t, l, at, depth, 0, api.ErrRange)
		}
	}
	for _, l := range [][]lexeme.Token{nil, {}} {
		noListAt(t, l, 0, 0, 0, api.ErrForm)
		noListAt(t, l, 1, 0, 0, api.ErrRange)
		noListAt(t, l, -1, 0, 0, api.ErrRange)
		noListAt(t, l, 0, -1, 0, api.ErrRange)
	}
}

// P5.2: the parentheses of a list do not count as nesting; its expressions are read at the depth that is given.
func TestListAtADepth(t *testing.T) {
	for _, depth := range []int{0, 39, 40, 41, math.MaxInt} {
		listedAt(t, tokens(t, "()"), 0, depth, nil, 2)
		listedAt(t, tokens(t, "(a, len(b) - 1)"), 0, depth, exprs(a, binary(length("b"), "-", num(1))), 10)
	}
	listedAt(t, tokens(t, "((a), -b, c[d])"), 0, 39, exprs(a, minus(b), index("c", d)), 13)
	noListAt(t, tokens(t, "((a), -b, c[d])"), 0, 40, 1, api.ErrDeep)
	noListAt(t, tokens(t, "(a, -b, c[d])"), 0, 40, 3, api.ErrDeep)
	noListAt(t, tokens(t, "(a, b, c[d])"), 0, 40, 6, api.ErrDeep)
	noListAt(t, tokens(t, "(a, !c)"), 0, math.MaxInt, 3, api.ErrDeep)
	noListAt(t, tokens(t, "((a), -(b))"), 0, 39, 6, api.ErrDeep)
	listed(t, "("+times(40, "(")+"a"+times(40, ")")+","+times(40, "(")+"b"+times(40, ")")+")", a, b)
	noList(t, "("+times(41, "("), 41, api.ErrDeep)
	noList(t, "(a,"+times(41, "-"), 43, api.ErrDeep)
}

// P5.2: the errors of Parse, of the first expression that has one.
func TestListOfWrongExpressions(t *testing.T) {
	deep := "a" + times(20, " + b")
	noList(t, "("+deep+")", 41, api.ErrDeep)
	noList(t, "(a, "+deep+", (int))", 43, api.ErrDeep)
	noList(t, "(a, (int), "+deep+")", 4, api.ErrForm)
	noList(t, "("+deep+" int", 41, api.ErrDeep)
	noList(t, "(a +, b)", 3, api.ErrForm)
	noList(t, "(a, b +)", 5, api.ErrForm)
	noList(t, "(a, (b)", 6, api.ErrForm)
	noList(t, "(a, b[c)", 6, api.ErrForm)
	noList(t, "(a, len(1))", 5, api.ErrForm)
	noList(t, "(-)", 2, api.ErrForm)
	for _, x := range foreign() {
		noListAt(t, list(x), 0, 0, 0, api.ErrForm)
		noListAt(t, list(sign("("), x), 0, 0, 1, api.ErrForm)
		noListAt(t, list(sign("("), name("a"), sign(","), x, sign(")")), 0, 0, 3, api.ErrForm)
		noListAt(t, list(sign("("), name("a"), x, sign(")")), 0, 0, 2, api.ErrForm)
	}
}

// P5.2: the tokens that have to follow: a (, then a ) or an expression, then a comma or a ).
func TestListOfWrongTokens(t *testing.T) {
	for _, text := range []string{"", "a", ")", "[", "{", ",", "-", "a()", "len(a)", "5", "int", "=", "[]", "{}"} {
		noList(t, text, 0, api.ErrForm)
	}
	for _, text := range []string{"(", "(,", "(]", "(}", "(;)", "(int)", "(,)", "(, a)", "(=)", "([)"} {
		noList(t, text, 1, api.ErrForm)
	}
	for _, text := range []string{"(a", "(a b)", "(a]", "(a}", "(a;", "(a; b)", "(a = b)", "(a (b))", "(a !b)", "(a int)", "(5[a])", "(a true)"} {
		noList(t, text, 2, api.ErrForm)
	}
	for _, text := range []string{"(a,", "(a,)", "(a,,", "(a,,b)", "(a, int)", "(a,]", "(a, *b)"} {
		noList(t, text, 3, api.ErrForm)
	}
	for _, text := range []string{"(a, b", "(a, b c)", "(a, b]", "(a, b;", "(a, b(c))"} {
		noList(t, text, 4, api.ErrForm)
	}
	// Signs are tokens of the kind Sign alone.
	for _, kind := range []int{-1, 0, 1, 2, 3, 5, math.MaxInt} {
		noListAt(t, list(lexeme.Token{Kind: kind, Text: "("}, sign(")")), 0, 0, 0, api.ErrForm)
		noListAt(t, list(sign("("), lexeme.Token{Kind: kind, Text: ")"}), 0, 0, 1, api.ErrForm)
		noListAt(t, list(sign("("), name("a"), lexeme.Token{Kind: kind, Text: ")"}), 0, 0, 2, api.ErrForm)
		noListAt(t, list(sign("("), name("a"), lexeme.Token{Kind: kind, Text: ","}, name("b"), sign(")")), 0, 0, 2, api.ErrForm)
	}
}

// P5.2: lists that are cut off at each token.
func TestListsThatAreCutOff(t *testing.T) {
	for _, text := range []string{"()", "(a)", "(a, b)", "(a - b, -c, (d), len(a), x[1], !true)"} {
		l := tokens(t, text)
		for n := range len(l) {
			noListAt(t, l[:n], 0, 0, n, api.ErrForm)
		}
	}
}

// P5.6: the expressions of a list have the right shape.
func TestListsHaveTheRightShape(t *testing.T) {
	l, _, _ := expr.List(tokens(t, "(a, -5, b[len(c) % 2], !true || false)"), 0, 0)
	if len(l) != 4 {
		t.Fatal(l)
	}
	for _, e := range l {
		if shape.Expr(e) != api.OK {
			t.Error(e)
		}
	}
}
