package stmt_test

import (
	"math"
	"slices"
	"strings"
	"testing"

	"rewind/api"
	"rewind/lexeme"
	"rewind/stmt"
)

// deep reports an error if a text does not have ErrDeep at the token that is marked.
func deep(t *testing.T, text string) {
	t.Helper()
	mistaken(t, text, api.ErrDeep)
}

// nest is a way to nest blocks: the text up to the inner block, the index of the { in it that comes first, and the statements that have the inner one.
type nest struct {
	front string
	first int
	with  func(inner []api.Stmt) []api.Stmt
}

// nests are ways to nest blocks; all but the last one consist of one statement.
var nests = []nest{
	{"while a {", 2, func(inner []api.Stmt) []api.Stmt { return block(loop(a, inner...)) }},
	{"if a {", 2, func(inner []api.Stmt) []api.Stmt { return block(branch(a, inner, nil)) }},
	{"if a { } else {", 2, func(inner []api.Stmt) []api.Stmt { return block(branch(a, nil, inner)) }},
	{"read x; while a { } if a {", 5, func(inner []api.Stmt) []api.Stmt { return block(read("x"), loop(a), branch(a, inner, nil)) }},
}

// P6.1 and P6.2: blocks are nested to the depth 20, from the depth on that is given; the first { of a greater depth is wrong.
func TestNestedBlocks(t *testing.T) {
	for i, x := range nests {
		width := len(tokens(t, x.front))
		for depth := 1; depth <= 20; depth++ {
			want := []api.Stmt(nil)
			for n := range 25 {
				l := tokens(t, "{"+times(n, x.front)+times(n, "}")+"}")
				fits, tooDeep := depth+n <= 20, 1+width*(20-depth)+x.first
				switch {
				case fits:
					blockAt(t, l, 0, depth, want, len(l))
				default:
					noBlockAt(t, l, 0, depth, tooDeep, api.ErrDeep)
				}
				switch {
				case n == 0 || i == len(nests)-1:
				case fits:
					parsedAt(t, l, 1, depth, want[0], len(l)-1)
				default:
					wrongAt(t, l, 1, depth, tooDeep, api.ErrDeep)
				}
				want = x.with(want)
			}
		}
	}
}

// P6.1 and P6.2: from a depth that leaves no room on, each block in a statement is too deep, and from the next one on each block.
func TestGreatDepths(t *testing.T) {
	for _, depth := range []int{20, 21, 22, 100, 1 << 32, 1<<32 + 1, math.MaxInt - 1, math.MaxInt} {
		for _, x := range []struct {
			text string
			want api.Stmt
		}{{"var x int = a;", declare("x", api.Int, a)}, {"x = a;", set("x", a)}, {"x[a] = b;", store("x", a, b)}, {"x = new a;", create("x", a)}, {"read x;", read("x")}, {"print a;", print(a)}, {"f(a);", call("", "f", a)}, {"x = f();", call("x", "f")}, {"return;", give()}} {
			l := tokens(t, x.text)
			parsedAt(t, l, 0, depth, x.want, len(l))
			wrongAt(t, l[:len(l)-1], 0, depth, len(l)-1, api.ErrForm)
		}
		for _, text := range []string{"if a @{ }", "if a @{", "if a @{ ) else", "while a @{ }", "while a + b @{ print a; }"} {
			l, end := marked(t, text)
			wrongAt(t, l, 0, depth, end, api.ErrDeep)
		}
		for _, text := range []string{"if @", "if a @", "if a @;", "if a @}", "while a @read x;", "while @{"} {
			l, end := marked(t, text)
			wrongAt(t, l, 0, depth, end, api.ErrForm)
		}
		if depth > 20 {
			for _, text := range []string{"@{", "@{ }", "@{ x = 1; }", "@{ 5", "@{ while a { } }"} {
				l, end := marked(t, text)
				noBlockAt(t, l, 0, depth, end, api.ErrDeep)
			}
		}
	}
}

// P6.1 and P6.2: behind a block, the depth is the one in front of it.
func TestDepthBehindBlocks(t *testing.T) {
	inner := times(18, "while a {") + times(18, "}")
	towers := tokens(t, "{ while a {"+inner+"} if b {"+inner+"} else {"+inner+"} while c {"+inner+"} }")
	if _, end, e := stmt.Block(towers, 0, 1); end != len(towers) || e != api.OK {
		t.Errorf("Block(%s, 0, 1) = %d, %d", show(towers), end, e)
	}
	for _, text := range []string{
		"{ while a { while b { } } while a { while a { while a @{ } } } }",
		"{ if a { while b { } } else { while b { } while a { while a @{ } } } }",
		"{ if a { while b { } } if a { } else { while a { while a @{ } } } }",
		"{ if a { if b { } else { } if a { if b @{ } } } }",
	} {
		l, end := marked(t, text)
		noBlockAt(t, l, 0, 18, end, api.ErrDeep)
		if _, end, e := stmt.Block(l, 0, 17); end != len(l) || e != api.OK {
			t.Errorf("Block(%s, 0, 17) = %d, %d", show(l), end, e)
		}
	}
}

// P6.1 and P6.2: whichever error comes first.
func TestTwoErrors(t *testing.T) {
	for text, want := range map[string]api.Errno{
		"{ @; while a { } }":    api.ErrForm,
		"{ while a @{ ; } }":    api.ErrDeep,
		"{ while a @; { } }":    api.ErrForm,
		"{ while a @{ } ; }":    api.ErrDeep,
		"{ while a @{":          api.ErrDeep,
		"{ while a @}":          api.ErrForm,
		"{ if a @{ } else ;":    api.ErrDeep,
		"{ print @; if a { } }": api.ErrForm,
		"{ if " + "a +" + times(19, "a +") + "@a { } }":  api.ErrDeep,
		"{ if " + times(40, "-") + "@- a { } }":          api.ErrDeep,
		"{ if (@) { } }":                                 api.ErrForm,
		"{ if (a @{ } }":                                 api.ErrForm,
		"{ print " + times(20, "a +") + "@a if a { } }":  api.ErrDeep,
		"{ print " + times(19, "a +") + "a @if a { } }":  api.ErrForm,
		"{ print " + times(19, "a +") + "a; if a @{ } }": api.ErrDeep,
		"{ f(@, " + times(20, "a +") + "a); }":           api.ErrForm,
		"{ f(" + times(20, "a +") + "@a, );":             api.ErrDeep,
		"{ x = f(" + times(20, "a +") + "@a":             api.ErrDeep,
	} {
		l, end := marked(t, text)
		noBlockAt(t, l, 0, 20, end, want)
	}
}

// places are statements with an expression in each place where one can be: E.
var places = []string{"var x int = E;", "x = E;", "x[E] = a;", "x[a] = E;", "x = new E;", "print E;", "f(E);", "f(a, E, b);", "x = f(E);", "x = f(a, E);", "return E;", "if E { }", "if E { } else { }", "while E { }", "if a { print E; }", "if a { } else { x = E; }", "while a { f(E); }"}

// P6.1 and P6.2: in each place, expressions are read at the depth 0: up to 40 signs are nested, and the depth of an expression is at most 20.
func TestExpressionsAtTheLimits(t *testing.T) {
	for _, place := range places {
		for text, end := range map[string]int{
			times(40, "(") + "a" + times(40, ")"):                  81,
			times(39, "(") + "-a" + times(39, ")"):                 80,
			times(19, "-") + "a":                                   20,
			times(19, "a[") + "a" + times(19, "]"):                 58,
			"a" + times(19, "+ a"):                                 39,
			times(21, "(") + times(19, "-") + "a" + times(21, ")"): 62,
		} {
			l := tokens(t, strings.Replace(place, "E", text, 1))
			if end != len(tokens(t, text)) {
				t.Fatal(text)
			}
			for _, depth := range []int{1, 2, 19} {
				got, gotEnd, e := stmt.Parse(l, 0, depth)
				if gotEnd != len(l) || e != api.OK || got.Kind == 0 {
					t.Errorf("Parse(%s, 0, %d) = %+v, %d, %d", show(l), depth, got, gotEnd, e)
				}
			}
		}
		for _, text := range []string{
			times(40, "(") + "@(a" + times(41, ")"),
			times(40, "(") + "@-a" + times(40, ")"),
			times(40, "-") + "@- a",
			times(40, "(") + "a@[b]" + times(40, ")"),
			times(20, "-") + "@a",
			times(20, "a[") + "a" + times(19, "]") + "@]",
			times(20, "a + ") + "@a",
			times(20, "a + ") + "@a + a",
		} {
			deep(t, strings.Replace(place, "E", text, 1))
		}
		for _, text := range []string{"(@)", "a + @", "a[@]", "len(a @+ b)", "len(@5)", "- @", "(a @int", "@int", "@read"} {
			wrong(t, strings.Replace(place, "E", text, 1))
		}
	}
}

// names returns tokens of the kind Name that are no Names.
func names() []lexeme.Token {
	var l []lexeme.Token
	for _, text := range append(strings.Fields("func var if else while return print read new len int bool array true false 5 1a _a a-b ( = ; abcdefghijklmnopq"), "", " ", "a ", " a", "a b", "\u00e9", "a\u00e9") {
		l = append(l, name(text))
	}
	return l
}

// P6.1 and P6.2: Names are tokens whose text can be a name.
func TestNamesThatAreNone(t *testing.T) {
	for _, text := range []string{"@x = a;", "@x = new a;", "@x = f();", "x = @f();", "@x[a] = b;", "@f();", "var @x int;", "var @x int = a;", "read @x;", "x = @y;", "print @y;", "return @y;", "if @y { }", "while @y { }", "if a { } else { @x = a; }"} {
		l, at := marked(t, text)
		for _, x := range names() {
			l[at] = x
			wrongAt(t, l, 0, 1, at, api.ErrForm)
			noBlockAt(t, slices.Concat(list(sign("{")), l, list(sign("}"))), 0, 1, at+1, api.ErrForm)
		}
	}
}

// statements are all rows of the table of statements, with all that matters.
var statements = []string{"var x int;", "var x bool = a;", "var x array;", "x = a;", "x[a] = b;", "x = new a;", "read x;", "print a;", "f();", "f(a);", "f(a, b + 1);", "x = f();", "x = f(a, b[1]);", "return;", "return a;", "if a { }", "if a { read x; }", "if a { } else { }", "if a { read x; } else { print a; }", "while a { }", "while a { x = new 1; f(); }", "if a { if b { } else { } }", "while a { var y int = len(b); return (a); }"}

// last returns the number of the else that belongs to the statement, and not to one in it; -1 if there is none.
func last(l []lexeme.Token) int {
	depth := 0
	for i, x := range l {
		switch {
		case x.Text == "{":
			depth++
		case x.Text == "}":
			depth--
		case x.Text == "else" && depth == 0:
			return i
		}
	}
	return -1
}

// brokenAt reports an error if a statement whose token i is wrong or missing is not answered with this index; but if this is its else, it is read without it.
func brokenAt(t *testing.T, l []lexeme.Token, i int, elseAt int) {
	t.Helper()
	got, end, e := stmt.Parse(l, 0, 1)
	if i == elseAt {
		whole, wholeEnd, _ := stmt.Parse(l[:i:i], 0, 1)
		if !same(got, whole) || got.Kind != api.SIf || len(got.Else) > 0 || end != i || wholeEnd != i || e != api.OK {
			t.Errorf("Parse(%s, 0, 1) = %+v, %d, %d; want the statement without else, %d", show(l), got, end, e, i)
		}
		return
	}
	wrongAt(t, l, 0, 1, i, api.ErrForm)
}

// P6.5: statements that are cut off at each of their tokens.
func TestStatementsThatAreCutOff(t *testing.T) {
	for _, text := range statements {
		l := tokens(t, text)
		for i := range l {
			brokenAt(t, l[:i], i, last(l))
			brokenAt(t, slices.Clip(slices.Clone(l[:i])), i, last(l))
			noBlockAt(t, slices.Concat(list(sign("{")), l[:i]), 0, 1, i+1, api.ErrForm)
		}
	}
}

// P6.5: statements with a wrong token in the place of each of them, and with one put in front of each of them.
func TestStatementsWithWrongTokens(t *testing.T) {
	foreign := append(names(), keyword("func"), lexeme.Token{}, keyword(""), keyword("x"), keyword("a"), keyword(";"), keyword("{"), keyword("Var"), keyword("ints"), keyword("int "),
		number(""), number("-1"), number("01"), number("9223372036854775808"), number("x"), number("int"), number(";"),
		sign(""), sign("x"), sign("int"), sign("else"), sign("{{"), sign("{}"), sign("()"), sign("; "), sign("=="), sign(":="), sign("&"))
	for _, text := range statements {
		l := tokens(t, text)
		for i := range l {
			for _, x := range foreign {
				// An == may be an operator between two operands.
				if x.Text == "==" && x.Kind == lexeme.Sign && i > 1 {
					continue
				}
				brokenAt(t, slices.Concat(l[:i], list(x), l[i+1:]), i, last(l))
				brokenAt(t, slices.Concat(l[:i], list(x), l[i:]), i, last(l))
				brokenAt(t, slices.Concat(l[:i], list(x)), i, last(l))
			}
		}
	}
}

// P6.5: statements with a token of another kind, but with the same text, in the place of each of them.
func TestStatementsWithWrongKinds(t *testing.T) {
	for _, text := range statements {
		l := tokens(t, text)
		for i, x := range l {
			for _, kind := range []int{math.MinInt, -1, 0, 1, 2, 3, 4, 5, 1<<32 + 1, 1<<32 + 3, 1<<32 + 4, math.MaxInt} {
				if kind != x.Kind {
					brokenAt(t, slices.Concat(l[:i], list(lexeme.Token{Kind: kind, Text: x.Text, At: x.At}), l[i+1:]), i, last(l))
				}
			}
		}
	}
}
