package expr_test

import (
	"fmt"
	"math"
	"slices"
	"strings"
	"testing"

	"rewind/api"
	"rewind/expr"
	"rewind/lexeme"
	"rewind/shape"
)

// allWords are the keywords.
var allWords = strings.Fields("func var if else while return print read new len int bool array true false")

// allSigns are the signs of package lexeme.
var allSigns = strings.Fields("|| && == != <= >= ( ) { } [ ] , ; = < > + - * / % !")

// ranks are the operators with two operands: for each sign the operator and the rank, as the chapter's table has them.
var ranks = map[string][2]int{
	"||": {13, 1},
	"&&": {12, 2},
	"==": {6, 3}, "!=": {7, 3}, "<": {8, 3}, "<=": {9, 3}, ">": {10, 3}, ">=": {11, 3},
	"+": {1, 4}, "-": {2, 4},
	"*": {3, 5}, "/": {4, 5}, "%": {5, 5},
}

// Short ways to write expressions:

func num(n int64) api.Expr           { return api.Expr{Kind: 1, Num: n} }
func truth(n int64) api.Expr         { return api.Expr{Kind: 2, Num: n} }
func variable(s string) api.Expr     { return api.Expr{Kind: 3, Name: s} }
func minus(e api.Expr) api.Expr      { return api.Expr{Kind: 4, Op: 14, Args: []api.Expr{e}} }
func not(e api.Expr) api.Expr        { return api.Expr{Kind: 4, Op: 15, Args: []api.Expr{e}} }
func length(s string) api.Expr       { return api.Expr{Kind: 7, Name: s} }
func exprs(l ...api.Expr) []api.Expr { return l }

func index(s string, e api.Expr) api.Expr {
	return api.Expr{Kind: 6, Name: s, Args: []api.Expr{e}}
}

func binary(a api.Expr, sign string, b api.Expr) api.Expr {
	return api.Expr{Kind: 5, Op: ranks[sign][0], Args: []api.Expr{a, b}}
}

var a, b, c, d = variable("a"), variable("b"), variable("c"), variable("d")

// Short ways to write tokens:

func name(s string) lexeme.Token    { return lexeme.Token{Kind: 1, Text: s} }
func number(s string) lexeme.Token  { return lexeme.Token{Kind: 2, Text: s} }
func keyword(s string) lexeme.Token { return lexeme.Token{Kind: 3, Text: s} }
func sign(s string) lexeme.Token    { return lexeme.Token{Kind: 4, Text: s} }

func list(l ...lexeme.Token) []lexeme.Token { return l }

// tokens returns the tokens of a text.
func tokens(t *testing.T, text string) []lexeme.Token {
	t.Helper()
	l, at, e := lexeme.Scan(text)
	if e != api.OK {
		t.Fatalf("%q has no token at %d", text, at)
	}
	return l
}

// show returns tokens as a string.
func show(l []lexeme.Token) string {
	var s []string
	for i, t := range l {
		if i == 100 {
			s = append(s, "..")
			break
		}
		s = append(s, t.Text)
	}
	return strings.Join(s, " ")
}

// same reports whether two expressions are equal in all fields, whatever shape they have.
func same(a, b api.Expr) bool {
	return a.Kind == b.Kind && a.Op == b.Op && a.Num == b.Num && a.Name == b.Name && slices.EqualFunc(a.Args, b.Args, same)
}

// parsedAt reports an error if Parse does not return this expression and this index.
func parsedAt(t *testing.T, l []lexeme.Token, at, depth int, want api.Expr, wantEnd int) {
	t.Helper()
	got, end, e := expr.Parse(l, at, depth)
	if !same(got, want) || end != wantEnd || e != api.OK {
		t.Errorf("Parse(%s, %d, %d) = %v, %d, %d; want %v, %d", show(l), at, depth, got, end, e, want, wantEnd)
	}
}

// wrongAt reports an error if Parse does not return this index and this error, and no expression.
func wrongAt(t *testing.T, l []lexeme.Token, at, depth int, wantEnd int, want api.Errno) {
	t.Helper()
	got, end, e := expr.Parse(l, at, depth)
	if !same(got, api.Expr{}) || end != wantEnd || e != want {
		t.Errorf("Parse(%s, %d, %d) = %v, %d, %d; want %d, %d", show(l), at, depth, got, end, e, wantEnd, want)
	}
}

// parsed reports an error if all of a text is not this expression.
func parsed(t *testing.T, text string, want api.Expr) {
	t.Helper()
	l := tokens(t, text)
	parsedAt(t, l, 0, 0, want, len(l))
}

// malformed reports an error if a text does not have ErrForm at this index.
func malformed(t *testing.T, text string, end int) {
	t.Helper()
	wrongAt(t, tokens(t, text), 0, 0, end, api.ErrForm)
}

// tooDeep reports an error if a text does not have ErrDeep at this index.
func tooDeep(t *testing.T, text string, end int) {
	t.Helper()
	wrongAt(t, tokens(t, text), 0, 0, end, api.ErrDeep)
}

// times returns a text written n times.
func times(n int, text string) string { return strings.Repeat(text+" ", n) }

// P5.1: the table of the chapter.
func TestExamplesOfTheChapter(t *testing.T) {
	parsed(t, "a - b - c * d", binary(binary(a, "-", b), "-", binary(c, "*", d)))
	parsedAt(t, tokens(t, "a - b - c * d"), 0, 0, binary(binary(a, "-", b), "-", binary(c, "*", d)), 7)
	parsed(t, "x < 1 && !y || z[i + 1] == len(a)", binary(
		binary(binary(variable("x"), "<", num(1)), "&&", not(variable("y"))), "||",
		binary(index("z", binary(variable("i"), "+", num(1))), "==", length("a"))))
	parsed(t, "-x * y", binary(minus(variable("x")), "*", variable("y")))
	parsed(t, "- - 5", minus(minus(num(5))))
	parsedAt(t, tokens(t, "a b"), 0, 0, a, 1)
	parsedAt(t, tokens(t, "(a))"), 0, 0, a, 3)
	for i, text := range []string{"", "a +", "(a", "a[1", "len(1)", "int"} {
		malformed(t, text, []int{0, 2, 2, 3, 2, 0}[i])
	}
	tooDeep(t, times(41, "("), 40)
	tooDeep(t, times(41, "-"), 40)
}

// P5.1: each row of the table of operands.
func TestParseOfOperands(t *testing.T) {
	for text, want := range map[string]api.Expr{
		"0":                        num(0),
		"7":                        num(7),
		"9223372036854775807":      num(math.MaxInt64),
		"true":                     truth(1),
		"false":                    truth(0),
		"x":                        variable("x"),
		"abcdefghijklmnop":         variable("abcdefghijklmnop"),
		"Len":                      variable("Len"),
		"x[0]":                     index("x", num(0)),
		"x[y]":                     index("x", variable("y")),
		"x[y[z]]":                  index("x", index("y", variable("z"))),
		"x[(y)]":                   index("x", variable("y")),
		"x[a + b]":                 index("x", binary(a, "+", b)),
		"x[-1]":                    index("x", minus(num(1))),
		"x[len(x)]":                index("x", length("x")),
		"len(x)":                   length("x"),
		"(x)":                      variable("x"),
		"(((x)))":                  variable("x"),
		"(true)":                   truth(1),
		"(a + b)":                  binary(a, "+", b),
		"-x":                       minus(variable("x")),
		"!x":                       not(variable("x")),
		"-!-x":                     minus(not(minus(variable("x")))),
		"-9223372036854775807 - 1": binary(minus(num(math.MaxInt64)), "-", num(1)),
	} {
		parsed(t, text, want)
		parsed(t, "("+text+")", want)
		parsed(t, "y["+text+"]", index("y", want))
	}
}

// P5.1: - and ! in front of each kind of operand, which ends where the operand does.
func TestParseOfOperatorsWithOneOperand(t *testing.T) {
	for text, want := range map[string]api.Expr{
		"5": num(5), "true": truth(1), "false": truth(0), "a": a, "a[b]": index("a", b), "len(a)": length("a"),
		"(a)": a, "(a * b)": binary(a, "*", b), "((a || b))": binary(a, "||", b), "-a": minus(a), "!a": not(a), "- -a": minus(minus(a)), "!!5": not(not(num(5))), "-(-a)": minus(minus(a)),
	} {
		parsed(t, "-"+text, minus(want))
		parsed(t, "!"+text, not(want))
		parsed(t, "-!"+text, minus(not(want)))
		for s := range ranks {
			parsed(t, "-"+text+s+"b", binary(minus(want), s, b))
			parsed(t, "!"+text+s+"b", binary(not(want), s, b))
			parsed(t, "b"+s+" -"+text, binary(b, s, minus(want)))
			parsed(t, "b"+s+" !"+text, binary(b, s, not(want)))
			parsed(t, "!"+text+s+" -"+text, binary(not(want), s, minus(want)))
		}
	}
	parsedAt(t, tokens(t, "a ! b"), 0, 0, a, 1)
	parsed(t, "a - - b", binary(a, "-", minus(b)))
	parsed(t, "a - b", binary(a, "-", b))
}

// P5.1: all pairs of operators side by side, with and without parentheses.
func TestParseOfPairsOfOperators(t *testing.T) {
	for s, x := range ranks {
		for o, y := range ranks {
			left, right := binary(binary(a, s, b), o, c), binary(a, s, binary(b, o, c))
			want := left
			if y[1] > x[1] {
				want = right
			}
			parsed(t, "a "+s+" b "+o+" c", want)
			parsed(t, "(a "+s+" b "+o+" c)", want)
			parsed(t, "(a "+s+" b) "+o+" c", left)
			parsed(t, "a "+s+" (b "+o+" c)", right)
			parsed(t, "x[a "+s+" b "+o+" c]", index("x", want))
			parsed(t, "x[a] "+s+" x[b] "+o+" x[c]", replaced(want))
		}
	}
}

// replaced returns an expression with the element of x at a instead of a, and so on.
func replaced(e api.Expr) api.Expr {
	if e.Kind == api.EVar {
		return index("x", e)
	}
	return api.Expr{Kind: e.Kind, Op: e.Op, Args: exprs(replaced(e.Args[0]), replaced(e.Args[1]))}
}

// P5.1: operators of all ranks, rising, falling, and rising again.
func TestParseOfAllRanks(t *testing.T) {
	e, f, g := variable("e"), variable("f"), variable("g")
	parsed(t, "a || b && c == d + e * f", binary(a, "||", binary(b, "&&", binary(c, "==", binary(d, "+", binary(e, "*", f))))))
	parsed(t, "a * b + c == d && e || f", binary(binary(binary(binary(binary(a, "*", b), "+", c), "==", d), "&&", e), "||", f))
	parsed(t, "a * b || c * d", binary(binary(a, "*", b), "||", binary(c, "*", d)))
	parsed(t, "a + b * c - d / e % f < g", binary(binary(binary(a, "+", binary(b, "*", c)), "-", binary(binary(d, "/", e), "%", f)), "<", g))
	parsed(t, "a || b && c || d", binary(binary(a, "||", binary(b, "&&", c)), "||", d))
	parsed(t, "a == b != c < d <= e > f >= g", binary(binary(binary(binary(binary(binary(a, "==", b), "!=", c), "<", d), "<=", e), ">", f), ">=", g))
	parsed(t, "(a || b) * (c && d)", binary(binary(a, "||", b), "*", binary(c, "&&", d)))
}

// P5.1: an index from 0 to the number of tokens, and others; a depth below 0.
func TestParseAtAnIndex(t *testing.T) {
	l := tokens(t, "a + b ) - c")
	parsedAt(t, l, 0, 0, binary(a, "+", b), 3)
	wrongAt(t, l, 1, 0, 1, api.ErrForm)
	parsedAt(t, l, 2, 0, b, 3)
	wrongAt(t, l, 3, 0, 3, api.ErrForm)
	parsedAt(t, l, 4, 0, minus(c), 6)
	parsedAt(t, l, 5, 0, c, 6)
	wrongAt(t, l, 6, 0, 6, api.ErrForm)
	for _, at := range []int{-1, -2, math.MinInt, 7, 8, math.MaxInt} {
		for _, depth := range []int{0, 40, math.MaxInt, -1} {
			wrongAt(t, l, at, depth, 0, api.ErrRange)
		}
	}
	for _, depth := range []int{-1, -40, math.MinInt} {
		for at := range 7 {
			wrongAt(t, l, at, depth, 0, api.ErrRange)
		}
	}
	for _, l := range [][]lexeme.Token{nil, {}} {
		wrongAt(t, l, 0, 0, 0, api.ErrForm)
		wrongAt(t, l, 0, 40, 0, api.ErrForm)
		wrongAt(t, l, 1, 0, 0, api.ErrRange)
		wrongAt(t, l, -1, 0, 0, api.ErrRange)
		wrongAt(t, l, 0, -1, 0, api.ErrRange)
	}
}

// P5.1: a depth that leaves room for just one more token that nests, and one that leaves none.
func TestParseAtADepth(t *testing.T) {
	for text, want := range map[string]api.Expr{
		"(a)": a, "-a": minus(a), "!a": not(a), "a[b]": index("a", b), "(a) + (b)": binary(a, "+", b), "-a - -b": binary(minus(a), "-", minus(b)), "a[b] * !c": binary(index("a", b), "*", not(c)), "(len(a))": length("a"),
		"(a - b - c)": binary(binary(a, "-", b), "-", c), "-len(a)": minus(length("a")), "a[b] - a[c]": binary(index("a", b), "-", index("a", c)), "(a) - -b - a[d] - (c)": binary(binary(binary(a, "-", minus(b)), "-", index("a", d)), "-", c),
	} {
		l := tokens(t, text)
		parsedAt(t, l, 0, 38, want, len(l))
		parsedAt(t, l, 0, 39, want, len(l))
		first := 0
		if l[1].Text == "[" {
			first = 1
		}
		for _, depth := range []int{40, 41, 1000, math.MaxInt - 1, math.MaxInt} {
			wrongAt(t, l, 0, depth, first, api.ErrDeep)
		}
	}
	for text, at := range map[string]int{"((a))": 1, "(-a)": 1, "(!a)": 1, "(a[b])": 2, "-(a)": 1, "- -a": 1, "-!a": 1, "!-a": 1, "!!a": 1, "!(a)": 1, "-a[b]": 2, "a[(b)]": 2, "a[-b]": 2, "a[!b]": 2, "a[b[c]]": 3, "(a) + (b + (c))": 7, "-a + -(b)": 4} {
		l := tokens(t, text)
		if e, end, err := expr.Parse(l, 0, 38); end != len(l) || err != api.OK {
			t.Error(text, e, end, err)
		}
		wrongAt(t, l, 0, 39, at, api.ErrDeep)
	}
	// What does not nest is read at each depth.
	for text, want := range map[string]api.Expr{"a": a, "5": num(5), "true": truth(1), "len(a)": length("a"), "a - b * len(c) - 1": binary(binary(a, "-", binary(b, "*", length("c"))), "-", num(1))} {
		l := tokens(t, text)
		for _, depth := range []int{0, 39, 40, 41, math.MaxInt} {
			parsedAt(t, l, 0, depth, want, len(l))
		}
	}
}

// P5.1: the nesting of 40 and of 41, of each token that nests, and of several.
func TestParseOfNesting(t *testing.T) {
	parsed(t, times(40, "(")+"a"+times(40, ")"), a)
	parsed(t, times(40, "(")+"len(a) - b"+times(40, ")"), binary(length("a"), "-", b))
	tooDeep(t, times(41, "(")+"a"+times(41, ")"), 40)
	tooDeep(t, times(40, "(")+"-a"+times(40, ")"), 40)
	tooDeep(t, times(40, "(")+"!a"+times(40, ")"), 40)
	tooDeep(t, times(40, "(")+"a[b]"+times(40, ")"), 41)
	parsed(t, times(39, "(")+"-a"+times(39, ")"), minus(a))
	parsed(t, times(39, "(")+"!a"+times(39, ")"), not(a))
	parsed(t, times(39, "(")+"a[b]"+times(39, ")"), index("a", b))
	tooDeep(t, times(39, "(")+"a[(b)]"+times(39, ")"), 41)
	tooDeep(t, times(41, "-")+"a", 40)
	tooDeep(t, times(41, "!")+"a", 40)
	tooDeep(t, times(41, "a["), 81)
	malformed(t, times(40, "("), 40)
	malformed(t, times(40, "-"), 40)
	malformed(t, times(40, "a["), 80)
	for n := range 41 {
		malformed(t, times(n, "(")+times(40-n, "-"), 40)
		tooDeep(t, times(n, "(")+times(40-n, "-")+"(", 40)
		tooDeep(t, times(n, "!")+times(40-n, "a[")+"-", 80-n)
		tooDeep(t, times(n, "a[")+times(40-n, "(a) + (")+"a[", n*2+(40-n)*5+1)
	}
	// Whatever is closed does not count any more.
	parsed(t, times(40, "(")+"a"+times(40, ")")+"+"+times(40, "(")+"b"+times(40, ")"), binary(a, "+", b))
	parsed(t, times(38, "(")+"-a[b] - -a[c]"+times(38, ")"), binary(minus(index("a", b)), "-", minus(index("a", c))))
	tooDeep(t, times(40, "(")+"a"+times(40, ")")+"+"+times(41, "("), 122)
	parsed(t, times(20, "(")+"(a) + (b)"+times(20, ")")+"*"+times(40, "(")+"c"+times(40, ")"), binary(binary(a, "+", b), "*", c))
}

// P5.1: expressions of depth 20, and of 21, whose last token is the index that is returned.
func TestParseOfDepth(t *testing.T) {
	for n := range 31 {
		for _, x := range []struct {
			text  string
			last  int
			depth int
		}{
			{times(n, "-") + "a", n, 1 + n},
			{times(n, "!") + "len(a)", n + 3, 1 + n},
			{times(n, "-") + "(a)", n + 2, 1 + n},
			{times(n, "-") + "a[b]", n + 3, 2 + n},
			{"a" + times(n, " + b"), 2 * n, 1 + n},
			{"a" + times(n, " - 1") + "* (c)", 2*n + 4, 1 + max(n, 1+min(n, 1))},
			{"a" + times(n, " - len(b)"), 5 * n, 1 + n},
			{times(n, "a + (") + "b" + times(n, ")"), 4 * n, 1 + n},
			{times(n, "(a + ") + "b" + times(n, ")"), 4*n - 1, 1 + n},
			{times(n, "-") + "(a || b)", n + 4, 2 + n},
		} {
			l := tokens(t, x.text)
			got, end, e := expr.Parse(l, 0, 0)
			if x.depth <= 20 {
				if shape.Depth(got) != x.depth || end != len(l) || e != api.OK {
					t.Errorf("Parse(%s) = %v, %d, %d; want the depth %d", x.text, got, end, e, x.depth)
				}
			} else if e != api.ErrDeep || !same(got, api.Expr{}) {
				t.Errorf("Parse(%s) = %v, %d, %d; want ErrDeep", x.text, got, end, e)
			}
			if x.depth == 21 && end != x.last {
				t.Errorf("Parse(%s) fails at %d; want %d", x.text, end, x.last)
			}
		}
	}
}

// P5.1: where the index of an expression that is too deep stands, for each way in which one becomes complete.
func TestParseOfTooDeepExpressions(t *testing.T) {
	deep := "a" + times(19, " + b") // 39 tokens, with the depth 20
	parsed(t, deep, chain(19))
	tooDeep(t, deep+"- c - d", 40)
	tooDeep(t, deep+"- len(c) - d", 43)
	tooDeep(t, deep+"- a[c] - d", 43)
	tooDeep(t, deep+"- (c) - d", 42)
	tooDeep(t, deep+"- ((c)) - d", 44)
	tooDeep(t, deep+"- -c - d", 41)
	tooDeep(t, deep+"- c * d - d", 42)
	tooDeep(t, deep+"- c * d / (a) - d", 46)
	tooDeep(t, deep+"- c || d", 40)
	tooDeep(t, deep+"|| c && d", 42)
	tooDeep(t, deep+"|| c || d", 40)
	tooDeep(t, "c * ("+deep+")", 42)
	tooDeep(t, "c || "+deep, 40)
	tooDeep(t, "c || "+deep+"&& d", 42)
	tooDeep(t, "c || "+deep+"* d", 42)
	tooDeep(t, "-("+deep+") + d", 41)
	tooDeep(t, "!("+deep+") + d", 41)
	tooDeep(t, "-(("+deep+")) + d", 43)
	tooDeep(t, "c["+deep+"] + d", 41)
	tooDeep(t, "c["+deep+"- d] + d", 42)
	tooDeep(t, "(("+deep+"- d) + d)", 42)
	parsed(t, "("+deep+")", chain(19))
	parsed(t, "(("+deep+"))", chain(19))
	// A token of a greater rank makes the expression more deep, and later complete.
	parsed(t, "a"+times(19, " + b")+"* c", binary(chain(18), "+", binary(b, "*", c)))
	tooDeep(t, "a"+times(20, " + b")+"* c", 42)
	// Of the expressions that become complete with the same token, or with others, the first one decides.
	tooDeep(t, times(30, "-")+"a", 30)
	tooDeep(t, "b + "+times(20, "-")+"a + b", 22)
	tooDeep(t, times(25, "a[")+"b"+times(25, "]"), 50+20)
	tooDeep(t, times(25, "(a + ")+"b"+times(25, ")"), 75+19)
	tooDeep(t, "x["+times(20, "-")+"a] + ("+times(20, "-")+"b)", 22)
}

// chain returns a, to which b is added n times.
func chain(n int) api.Expr {
	if n == 0 {
		return a
	}
	return binary(chain(n-1), "+", b)
}

// P5.1: which of two errors comes first.
func TestParseOfTwoErrors(t *testing.T) {
	nested, deep := times(41, "("), "a"+times(20, " + b")
	tooDeep(t, nested+")", 40)
	tooDeep(t, nested+"int", 40)
	malformed(t, times(40, "(")+"int "+nested, 40)
	malformed(t, times(39, "(")+") (", 39)
	malformed(t, times(39, "(")+"a (", 40)
	malformed(t, ") "+nested, 0)
	malformed(t, "a + ) "+nested, 2)
	malformed(t, "len "+nested, 2)
	malformed(t, "len - "+nested, 1)
	malformed(t, times(40, "(")+"len((", 42)
	malformed(t, times(40, "(")+"len(a[", 43)
	tooDeep(t, deep, 40)
	tooDeep(t, deep+")", 40)
	tooDeep(t, deep+"+", 40)
	tooDeep(t, deep+"+ )", 40)
	tooDeep(t, "("+deep, 41)
	tooDeep(t, "("+deep+"int", 41)
	tooDeep(t, "a["+deep+")", 42)
	malformed(t, deep+"*", 42)
	malformed(t, deep+"* )", 42)
	malformed(t, deep+"* (", 43)
	malformed(t, deep+"* -", 43)
	malformed(t, deep+"* a[", 44)
	malformed(t, "int "+deep, 0)
	malformed(t, "a + int + "+deep, 2)
	malformed(t, times(21, "-"), 21)
	malformed(t, times(21, "-")+"(a", 23)
	malformed(t, times(21, "-")+"a[b", 24)
	malformed(t, times(21, "-")+"len(a", 24)
	tooDeep(t, times(21, "-")+"len(a)", 24)
	tooDeep(t, times(21, "-")+"a[b]", 24)
	// Both kinds of ErrDeep.
	tooDeep(t, deep+"* "+nested, 82)
	tooDeep(t, deep+"+ "+nested, 40)
	tooDeep(t, "("+times(20, "-")+"a) + "+nested, 21)
	tooDeep(t, times(40, "-")+"a", 40)
	tooDeep(t, times(41, "-")+"a", 40)
	// ErrRange goes ahead of both.
	wrongAt(t, tokens(t, nested), 0, -1, 0, api.ErrRange)
	wrongAt(t, tokens(t, nested), 42, 0, 0, api.ErrRange)
	wrongAt(t, tokens(t, ")"), 0, -1, 0, api.ErrRange)
	wrongAt(t, tokens(t, ")"), 2, -1, 0, api.ErrRange)
}

// P5.1: a sign or a keyword where an operand has to stand.
func TestParseOfWhatIsNoOperand(t *testing.T) {
	var no []lexeme.Token
	for _, s := range allSigns {
		if s != "(" && s != "-" && s != "!" {
			no = append(no, sign(s))
		}
	}
	for _, w := range allWords {
		if w != "true" && w != "false" && w != "len" {
			no = append(no, keyword(w))
		}
	}
	if len(no) != 23-3+15-3 {
		t.Fatal(len(no))
	}
	for _, x := range append(no, foreign()...) {
		wrongAt(t, list(x), 0, 0, 0, api.ErrForm)
		for _, front := range []string{"(", "-", "!", "a[", "a +", "a * b ||", "(a) -", "- (", "x[a, b"} {
			l := tokens(t, front)
			wrongAt(t, append(l, x), len(l), 0, len(l), api.ErrForm)
			if front == "x[a, b" {
				continue
			}
			for _, behind := range []string{"", "a", "a )", ") ]", "+ a"} {
				wrongAt(t, slices.Concat(l, list(x), tokens(t, behind)), 0, 0, len(l), api.ErrForm)
			}
		}
	}
}

// foreign returns tokens that package lexeme does not make, and that begin no operand.
func foreign() []lexeme.Token {
	l := list(lexeme.Token{}, name(""), name("len"), name("true"), name("int"), name("1a"), name("_a"), name("a b"), name("a "), name("-"), name("("), name("5"), name("abcdefghijklmnopq"), name("\u00e9"),
		number(""), number("-1"), number("-9223372036854775808"), number("9223372036854775808"), number("01"), number("00"), number("-0"), number("+1"), number("1a"), number("a"), number("("), number(" 1"), number("true"), number("1.5"), number("0x1"),
		keyword(""), keyword("a"), keyword("5"), keyword("("), keyword("-"), keyword("True"), keyword("LEN"), keyword("len "),
		sign(""), sign("a"), sign("5"), sign("true"), sign("len"), sign("(("), sign("--"), sign("- "), sign("!!"), sign("+ "), sign(" *"), sign("]]"), sign("&"))
	for _, kind := range []int{-1, 0, 5, 6, 1 << 32, 1<<32 + 1, math.MinInt, math.MaxInt} {
		for _, text := range []string{"", "a", "5", "true", "false", "len", "(", "-", "!"} {
			l = append(l, lexeme.Token{Kind: kind, Text: text})
		}
	}
	return l
}

// P5.1: tokens that package lexeme does not make, where something else could stand.
func TestParseOfForeignTokens(t *testing.T) {
	for _, x := range foreign() {
		// Behind an expression they do not matter.
		parsedAt(t, list(name("a"), x, name("b")), 0, 0, a, 1)
		parsedAt(t, list(number("5"), x, sign("+")), 0, 0, num(5), 1)
		wrongAt(t, list(keyword("len"), x), 0, 0, 1, api.ErrForm)
		wrongAt(t, list(keyword("len"), x, name("a"), sign(")")), 0, 0, 1, api.ErrForm)
		wrongAt(t, list(keyword("len"), sign("("), x, sign(")")), 0, 0, 2, api.ErrForm)
		wrongAt(t, list(keyword("len"), sign("("), name("a"), x), 0, 0, 3, api.ErrForm)
		wrongAt(t, list(sign("("), name("a"), x), 0, 0, 2, api.ErrForm)
		wrongAt(t, list(name("a"), sign("["), name("b"), x), 0, 0, 3, api.ErrForm)
	}
	// Signs are tokens of the kind Sign alone, and keywords those of the kind Keyword.
	for _, kind := range []int{-1, 0, 1, 2, 3, 5, 6, math.MaxInt} {
		for s := range ranks {
			parsedAt(t, list(name("a"), lexeme.Token{Kind: kind, Text: s}, name("b")), 0, 0, a, 1)
		}
		parsedAt(t, list(name("a"), lexeme.Token{Kind: kind, Text: "["}, name("b"), sign("]")), 0, 0, a, 1)
		wrongAt(t, list(name("a"), sign("["), name("b"), lexeme.Token{Kind: kind, Text: "]"}), 0, 0, 3, api.ErrForm)
		wrongAt(t, list(sign("("), name("a"), lexeme.Token{Kind: kind, Text: ")"}), 0, 0, 2, api.ErrForm)
		wrongAt(t, list(keyword("len"), lexeme.Token{Kind: kind, Text: "("}, name("a"), sign(")")), 0, 0, 1, api.ErrForm)
		wrongAt(t, list(keyword("len"), sign("("), name("a"), lexeme.Token{Kind: kind, Text: ")"}), 0, 0, 3, api.ErrForm)
	}
	for _, kind := range []int{-1, 0, 1, 2, 4, 5, 6, math.MaxInt} {
		for _, w := range []string{"true", "false", "len"} {
			wrongAt(t, list(lexeme.Token{Kind: kind, Text: w}, sign("("), name("a"), sign(")")), 0, 0, 0, api.ErrForm)
		}
	}
}

// P5.1: the brackets that close are those that belong to the ones that open.
func TestParseOfBrackets(t *testing.T) {
	malformed(t, "(a]", 2)
	malformed(t, "(a}", 2)
	malformed(t, "(a,", 2)
	malformed(t, "(a;", 2)
	malformed(t, "a[b)", 3)
	malformed(t, "a[b,", 3)
	malformed(t, "a[b;", 3)
	malformed(t, "a[]", 2)
	malformed(t, "()", 1)
	malformed(t, "(a[b)]", 4)
	malformed(t, "a[(b])", 4)
	malformed(t, "(a b)", 2)
	malformed(t, "a[b c]", 3)
	malformed(t, "(len)", 2)
	malformed(t, "len[a]", 1)
	malformed(t, "len a", 1)
	malformed(t, "len()", 2)
	malformed(t, "len((a))", 2)
	malformed(t, "len(a[0])", 3)
	malformed(t, "len(a + b)", 3)
	malformed(t, "len(len)", 2)
	malformed(t, "len(true)", 2)
	malformed(t, "len(a]", 3)
	// A [ belongs to a name alone, and a ( does not follow one.
	for text, end := range map[string]int{"5[a]": 1, "true[a]": 1, "(a)[b]": 3, "a[b][c]": 4, "len(a)[b]": 4, "-5[a]": 2, "a(b)": 1, "a()": 1, "a = b": 1, "a, b": 1, "a; b": 1, "a{": 1, "a]": 1, "5 5": 1, "a true": 1, "a len(b)": 1, "a + b = c": 3} {
		l := tokens(t, text)
		if e, got, err := expr.Parse(l, 0, 0); got != end || err != api.OK || shape.Expr(e) != api.OK {
			t.Errorf("Parse(%s) = %v, %d, %d; want the index %d", text, e, got, err, end)
		}
	}
}

// P5.1: lists that are cut off at each token: an expression ends there, or the next token is missing.
func TestParseOfListsThatAreCutOff(t *testing.T) {
	for _, x := range []struct{ text, ends string }{
		{"a - b - c * d", "nynynyny"},
		{"x < 1 && !y || z[i + 1] == len(a)", "nynynnyn" + "y" + "nnnn" + "y" + "nnnn" + "y"},
		{"(a)", "nnny"},
		{"((a) + b)", "nnnnnnny"},
		{"-(a) - -b", "nnnnynny"},
		{"!a[b[c]]", "nnynnnnny"},
		{"len(a) + true", "nnnnyny"},
		{"5 == false", "nyny"},
	} {
		l := tokens(t, x.text)
		if len(x.ends) != len(l)+1 {
			t.Fatal(x.text, len(x.ends), len(l))
		}
		for n := range len(l) + 1 {
			e, end, err := expr.Parse(l[:n], 0, 0)
			if want := x.ends[n] == 'y'; end != n || (err == api.OK) != want || (err == api.ErrForm) == want || (shape.Expr(e) == api.OK) != want || !want && !same(e, api.Expr{}) {
				t.Errorf("Parse(%s) = %v, %d, %d; want the index %d, and an expression: %v", show(l[:n]), e, end, err, n, want)
			}
		}
	}
}

// P5.3
func TestOp(t *testing.T) {
	for s, want := range ranks {
		if op, rank := expr.Op(s); op != want[0] || rank != want[1] {
			t.Errorf("Op(%s) = %d, %d", s, op, rank)
		}
		for _, other := range []string{s + " ", " " + s, s + s, s + "x", s + "\x00", s + "!", s[:len(s)-1]} {
			want := ranks[other]
			if op, rank := expr.Op(other); op != want[0] || rank != want[1] {
				t.Errorf("Op(%q) = %d, %d", other, op, rank)
			}
		}
	}
	for _, s := range slices.Concat(allSigns, allWords, []string{"", " ", "a", "1", "&", "|", "^", "++", "--", "<<", ">>", "<>", "=<", "and", "\u00d7", "\xff"}) {
		want := ranks[s]
		if op, rank := expr.Op(s); op != want[0] || rank != want[1] {
			t.Errorf("Op(%q) = %d, %d", s, op, rank)
		}
	}
}

// P5.3
func TestSign(t *testing.T) {
	want := map[int]string{api.Minus: "-", api.Not: "!"}
	for s, x := range ranks {
		want[x[0]] = s
	}
	if len(want) != 15 {
		t.Fatal(want)
	}
	for op := -300; op <= 300; op++ {
		if s := expr.Sign(op); s != want[op] {
			t.Errorf("Sign(%d) = %q; want %q", op, s, want[op])
		}
	}
	for _, op := range []int{math.MinInt, math.MaxInt, 1 << 32, 1<<32 + 1, 1<<32 + 14, -1 << 63, 1<<63 - 1} {
		if s := expr.Sign(op); s != "" {
			t.Errorf("Sign(%d) = %q", op, s)
		}
	}
}

// P1, and Limits: long lists end, too.
func TestParseOfLongLists(t *testing.T) {
	const n = 100000
	for _, x := range []struct {
		text string
		end  int
		err  api.Errno
	}{
		{times(n, "("), 40, api.ErrDeep},
		{times(n, "-"), 40, api.ErrDeep},
		{times(n, "a["), 81, api.ErrDeep},
		{times(n, "a +"), 40, api.ErrDeep},
		{times(n, "a"), 1, api.OK},
		{times(n, ")"), 0, api.ErrForm},
		{times(n, "len("), 2, api.ErrForm},
	} {
		if _, end, e := expr.Parse(tokens(t, x.text), 0, 0); end != x.end || e != x.err {
			t.Errorf("Parse(%.20s ..) = %d, %d; want %d, %d", x.text, end, e, x.end, x.err)
		}
	}
	l := tokens(t, times(n, "a")+"b + c")
	parsedAt(t, l, n, 0, binary(b, "+", c), n+3)
	// As many operands as a depth of 16 has room for.
	wide := "a"
	for range 15 {
		wide = "(" + wide + ") + (" + wide + ")"
	}
	l = tokens(t, wide)
	if e, end, err := expr.Parse(l, 0, 0); shape.Depth(e) != 16 || end != len(l) || err != api.OK {
		t.Error(end, len(l), err)
	}
}

// R4 and R8: arguments stay as they are, what stands behind them is not read, and equal calls return equal results in new memory.
func TestArgumentsStay(t *testing.T) {
	for _, text := range []string{"a - b[1] * -c", "(a", "a[(1 + 2) % 3]", "(a, -b, c[d])", "()", "(a, b", times(41, "(")} {
		whole := tokens(t, text+" + e")
		l := whole[:len(whole)-2]
		before := slices.Clone(whole)
		first := fmt.Sprint(expr.Parse(l, 0, 0)) + fmt.Sprint(expr.List(l, 0, 0))
		e, _, _ := expr.Parse(l, 0, 0)
		spoil(exprs(e))
		le, _, _ := expr.List(l, 0, 0)
		spoil(le)
		if again := fmt.Sprint(expr.Parse(l, 0, 0)) + fmt.Sprint(expr.List(l, 0, 0)); again != first {
			t.Errorf("%s: %s, and then %s", text, first, again)
		}
		if cut := slices.Clip(slices.Clone(l)); fmt.Sprint(expr.Parse(cut, 0, 0))+fmt.Sprint(expr.List(cut, 0, 0)) != first {
			t.Errorf("%s: what stands behind the tokens is read", text)
		}
		if !slices.Equal(whole, before) {
			t.Errorf("%v became %v", before, whole)
		}
	}
	// No two parts of a result are the same memory.
	e, _, _ := expr.Parse(tokens(t, "-x + -x * x[1] - x[1]"), 0, 0)
	want := binary(binary(minus(variable("x")), "+", binary(minus(variable("x")), "*", index("x", num(1)))), "-", index("x", num(1)))
	e.Args[1].Args[0] = num(7)
	want.Args[1].Args[0] = num(7)
	e.Args[0].Args[0].Args[0] = num(8)
	want.Args[0].Args[0].Args[0] = num(8)
	if !same(e, want) {
		t.Error(e)
	}
}

// spoil changes all memory of expressions.
func spoil(l []api.Expr) {
	for i := range l {
		spoil(l[i].Args)
		l[i] = api.Expr{Kind: -1}
	}
}

// The offsets of tokens do not matter.
func TestOffsetsDoNotMatter(t *testing.T) {
	l := tokens(t, "(a, b[1] - -c, len(d))")
	moved := slices.Clone(l)
	for i := range moved {
		moved[i].At = []int{-1, 0, 5, math.MinInt, math.MaxInt}[i%5]
	}
	if first, second := fmt.Sprint(expr.List(l, 0, 0)), fmt.Sprint(expr.List(moved, 0, 0)); first != second {
		t.Error(first, second)
	}
	if first, second := fmt.Sprint(expr.Parse(l, 3, 0)), fmt.Sprint(expr.Parse(moved, 3, 0)); first != second {
		t.Error(first, second)
	}
}
