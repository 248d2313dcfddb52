package stmt_test

import (
	"math"
	"slices"
	"strings"
	"testing"

	"rewind/api"
	"rewind/lexeme"
	"rewind/stmt"
)

// Short ways to write expressions:

func num(n int64) api.Expr           { return api.Expr{Kind: 1, Num: n} }
func variable(s string) api.Expr     { return api.Expr{Kind: 3, Name: s} }
func exprs(l ...api.Expr) []api.Expr { return l }

func plus(a, b api.Expr) api.Expr {
	return api.Expr{Kind: 5, Op: 1, Args: []api.Expr{a, b}}
}

var a, b, c = variable("a"), variable("b"), variable("c")

// Short ways to write statements:

func declare(name string, typ int, args ...api.Expr) api.Stmt {
	return api.Stmt{Kind: 1, Name: name, Type: typ, Args: args}
}

func set(name string, e api.Expr) api.Stmt {
	return api.Stmt{Kind: 2, Name: name, Args: exprs(e)}
}

func store(name string, at, e api.Expr) api.Stmt {
	return api.Stmt{Kind: 3, Name: name, Args: exprs(at, e)}
}

func create(name string, e api.Expr) api.Stmt {
	return api.Stmt{Kind: 4, Name: name, Args: exprs(e)}
}

func read(name string) api.Stmt   { return api.Stmt{Kind: 5, Name: name} }
func print(e api.Expr) api.Stmt   { return api.Stmt{Kind: 6, Args: exprs(e)} }
func give(l ...api.Expr) api.Stmt { return api.Stmt{Kind: 8, Args: l} }

func call(name, callee string, args ...api.Expr) api.Stmt {
	return api.Stmt{Kind: 7, Name: name, Callee: callee, Args: args}
}

func branch(e api.Expr, body, other []api.Stmt) api.Stmt {
	return api.Stmt{Kind: 9, Args: exprs(e), Body: body, Else: other}
}

func loop(e api.Expr, body ...api.Stmt) api.Stmt {
	return api.Stmt{Kind: 10, Args: exprs(e), Body: body}
}

func block(l ...api.Stmt) []api.Stmt { return l }

// Short ways to write tokens:

func name(s string) lexeme.Token    { return lexeme.Token{Kind: 1, Text: s} }
func number(s string) lexeme.Token  { return lexeme.Token{Kind: 2, Text: s} }
func keyword(s string) lexeme.Token { return lexeme.Token{Kind: 3, Text: s} }
func sign(s string) lexeme.Token    { return lexeme.Token{Kind: 4, Text: s} }

func list(l ...lexeme.Token) []lexeme.Token { return l }

// times returns a text written n times.
func times(n int, text string) string { return strings.Repeat(text+" ", n) }

// tokens returns the tokens of a text.
func tokens(t *testing.T, text string) []lexeme.Token {
	t.Helper()
	l, at, e := lexeme.Scan(text)
	if e != api.OK {
		t.Fatalf("%q has no token at %d", text, at)
	}
	return l
}

// show returns tokens as a string.
func show(l []lexeme.Token) string {
	var s []string
	for i, t := range l {
		if i == 100 {
			s = append(s, "..")
			break
		}
		s = append(s, t.Text)
	}
	return strings.Join(s, " ")
}

// sameExpr reports whether two expressions are equal in all fields, whatever shape they have.
func sameExpr(a, b api.Expr) bool {
	return a.Kind == b.Kind && a.Op == b.Op && a.Num == b.Num && a.Name == b.Name && slices.EqualFunc(a.Args, b.Args, sameExpr)
}

// same reports whether two statements are equal in all fields, numbers as well, whatever shape they have.
func same(a, b api.Stmt) bool {
	return a.Kind == b.Kind && a.No == b.No && a.Name == b.Name && a.Type == b.Type && a.Callee == b.Callee &&
		slices.EqualFunc(a.Args, b.Args, sameExpr) && slices.EqualFunc(a.Body, b.Body, same) && slices.EqualFunc(a.Else, b.Else, same)
}

// parsedAt reports an error if Parse does not return this statement and this index.
func parsedAt(t *testing.T, l []lexeme.Token, at, depth int, want api.Stmt, wantEnd int) {
	t.Helper()
	got, end, e := stmt.Parse(l, at, depth)
	if !same(got, want) || end != wantEnd || e != api.OK {
		t.Errorf("Parse(%s, %d, %d) = %+v, %d, %d; want %+v, %d", show(l), at, depth, got, end, e, want, wantEnd)
	}
}

// wrongAt reports an error if Parse does not return this index and this error, and no statement.
func wrongAt(t *testing.T, l []lexeme.Token, at, depth int, wantEnd int, want api.Errno) {
	t.Helper()
	got, end, e := stmt.Parse(l, at, depth)
	if !same(got, api.Stmt{}) || end != wantEnd || e != want {
		t.Errorf("Parse(%s, %d, %d) = %+v, %d, %d; want %d, %d", show(l), at, depth, got, end, e, wantEnd, want)
	}
}

// blockAt reports an error if Block does not return these statements and this index.
func blockAt(t *testing.T, l []lexeme.Token, at, depth int, want []api.Stmt, wantEnd int) {
	t.Helper()
	got, end, e := stmt.Block(l, at, depth)
	if !slices.EqualFunc(got, want, same) || end != wantEnd || e != api.OK {
		t.Errorf("Block(%s, %d, %d) = %+v, %d, %d; want %+v, %d", show(l), at, depth, got, end, e, want, wantEnd)
	}
}

// noBlockAt reports an error if Block does not return this index and this error, and no statements.
func noBlockAt(t *testing.T, l []lexeme.Token, at, depth int, wantEnd int, want api.Errno) {
	t.Helper()
	got, end, e := stmt.Block(l, at, depth)
	if len(got) != 0 || end != wantEnd || e != want {
		t.Errorf("Block(%s, %d, %d) = %+v, %d, %d; want %d, %d", show(l), at, depth, got, end, e, wantEnd, want)
	}
}

// parsed reports an error if all of a text is not this statement, alone, in a block, and as one of three statements of a block.
func parsed(t *testing.T, text string, want api.Stmt) {
	t.Helper()
	l := tokens(t, text)
	parsedAt(t, l, 0, 1, want, len(l))
	inBlock := tokens(t, "{"+text+"}")
	blockAt(t, inBlock, 0, 1, block(want), len(inBlock))
	among := tokens(t, "{ x = 1;"+text+"read y; }")
	blockAt(t, among, 0, 1, block(set("x", num(1)), want, read("y")), len(among))
}

// marked returns the tokens of a text, and the index of the one in front of which a @ stands.
func marked(t *testing.T, text string) ([]lexeme.Token, int) {
	t.Helper()
	front, behind, _ := strings.Cut(text, "@")
	l := tokens(t, front)
	return append(l, tokens(t, behind)...), len(l)
}

// mistaken reports an error if a text does not have this error at the token that is marked, alone, in a block, in a block behind another statement, and behind another statement.
func mistaken(t *testing.T, text string, want api.Errno) {
	t.Helper()
	l, end := marked(t, text)
	wrongAt(t, l, 0, 1, end, want)
	for _, front := range []string{"{", "{ x = 1;"} {
		inBlock, end := marked(t, front+text)
		noBlockAt(t, inBlock, 0, 1, end, want)
	}
	behind, end := marked(t, "while a { } "+text)
	wrongAt(t, behind, 4, 1, end, want)
}

// wrong reports an error if a text does not have ErrForm at the token that is marked.
func wrong(t *testing.T, text string) {
	t.Helper()
	mistaken(t, text, api.ErrForm)
}

// wrongBlock reports an error if a text that is no block does not have ErrForm at the token that is marked.
func wrongBlock(t *testing.T, text string) {
	t.Helper()
	l, end := marked(t, text)
	noBlockAt(t, l, 0, 1, end, api.ErrForm)
}

// P6.1 to P6.3: the table of the chapter.
func TestExamplesOfTheChapter(t *testing.T) {
	parsedAt(t, tokens(t, "var x int = 1 + 2;"), 0, 1, declare("x", api.Int, plus(num(1), num(2))), 8)
	parsed(t, "x[i] = y;", store("x", variable("i"), variable("y")))
	parsed(t, "x = new 3;", create("x", num(3)))
	parsed(t, "f(1, 2);", call("", "f", num(1), num(2)))
	parsed(t, "x = f();", call("x", "f"))
	parsedAt(t, tokens(t, "if a { print 1; } else { }"), 0, 1, branch(a, block(print(num(1))), nil), 10)
	parsedAt(t, tokens(t, "return; x"), 0, 1, give(), 2)
	for i, text := range []string{"var x;", "x + 1;", "print 1", "f;", "", "if a print 1;", "read 5;", "x = ;"} {
		wrongAt(t, tokens(t, text), 0, 1, []int{2, 1, 2, 1, 0, 2, 1, 2}[i], api.ErrForm)
	}
	blockAt(t, tokens(t, "{ x = 1; }"), 0, 1, block(set("x", num(1))), 6)
	blockAt(t, tokens(t, "{ }"), 0, 1, nil, 2)
	wrongBlock(t, "{ x = 1; @")
	noBlockAt(t, tokens(t, "{ }"), 0, 21, 0, api.ErrDeep)
	noBlockAt(t, tokens(t, "{ }"), 0, 0, 0, api.ErrRange)
	wrongAt(t, tokens(t, "if a { }"), 0, 20, 2, api.ErrDeep)
	if stmt.Type("bool") != api.Bool || stmt.Type("len") != api.None || stmt.Word(3) != "array" || stmt.Word(0) != "" {
		t.Error(stmt.Type("bool"), stmt.Type("len"), stmt.Word(3), stmt.Word(0))
	}
}

// P6.2: each row of the table of statements, with each of its forms.
func TestParseOfEachRow(t *testing.T) {
	for typ, word := range []string{1: "int", 2: "bool", 3: "array"} {
		if word != "" {
			parsed(t, "var x "+word+";", declare("x", typ))
			parsed(t, "var x "+word+" = a;", declare("x", typ, a))
			parsed(t, "var abcdefghijklmnop "+word+" = a + b;", declare("abcdefghijklmnop", typ, plus(a, b)))
		}
	}
	parsed(t, "x = a;", set("x", a))
	parsed(t, "x = 5;", set("x", num(5)))
	parsed(t, "x = a[1];", set("x", api.Expr{Kind: api.EIndex, Name: "a", Args: exprs(num(1))}))
	parsed(t, "x = len(a);", set("x", api.Expr{Kind: api.ELen, Name: "a"}))
	parsed(t, "x = (a);", set("x", a))
	parsed(t, "x = !true;", set("x", api.Expr{Kind: api.EUnary, Op: api.Not, Args: exprs(api.Expr{Kind: api.EBool, Num: 1})}))
	parsed(t, "x = x + (a + b);", set("x", plus(variable("x"), plus(a, b))))
	parsed(t, "x[0] = a;", store("x", num(0), a))
	parsed(t, "x[a + b] = b + c;", store("x", plus(a, b), plus(b, c)))
	parsed(t, "x[(a)] = (b);", store("x", a, b))
	parsed(t, "x = new a;", create("x", a))
	parsed(t, "x = new (a + 1);", create("x", plus(a, num(1))))
	parsed(t, "x = new a + 1;", create("x", plus(a, num(1))))
	parsed(t, "read x;", read("x"))
	parsed(t, "print a;", print(a))
	parsed(t, "print (a);", print(a))
	parsed(t, "print a + b;", print(plus(a, b)))
	parsed(t, "return;", give())
	parsed(t, "return a;", give(a))
	parsed(t, "return a + 1;", give(plus(a, num(1))))
	parsed(t, "return (a);", give(a))
}

// P6.2: calls, with and without a variable, with each number of arguments.
func TestParseOfCalls(t *testing.T) {
	for _, n := range []int{0, 1, 2, 3, 7, 8, 9, 10, 300} {
		args := slices.Repeat(exprs(plus(a, num(1))), n)
		text := strings.TrimSuffix(strings.Repeat("a + 1,", n), ",")
		parsed(t, "f("+text+");", call("", "f", args...))
		parsed(t, "x = f("+text+");", call("x", "f", args...))
	}
	parsed(t, "f((a), (b + c), -d);", call("", "f", a, plus(b, c), api.Expr{Kind: api.EUnary, Op: api.Minus, Args: exprs(variable("d"))}))
	parsed(t, "x = x(x);", call("x", "x", variable("x")))
	parsed(t, "main(a[f]);", call("", "main", api.Expr{Kind: api.EIndex, Name: "a", Args: exprs(variable("f"))}))
}

// P6.1 and P6.2: statements with blocks.
func TestParseOfBlocks(t *testing.T) {
	parsed(t, "while a { }", loop(a))
	parsed(t, "while a + b { x = a; }", loop(plus(a, b), set("x", a)))
	parsed(t, "while a { print a; print b; }", loop(a, print(a), print(b)))
	parsed(t, "while (a) { while b { } read x; }", loop(a, loop(b), read("x")))
	parsed(t, "if a { }", branch(a, nil, nil))
	parsed(t, "if (a) { }", branch(a, nil, nil))
	parsed(t, "if a + b { print a; }", branch(plus(a, b), block(print(a)), nil))
	parsed(t, "if a { print a; read x; }", branch(a, block(print(a), read("x")), nil))
	parsed(t, "if a { } else { }", branch(a, nil, nil))
	parsed(t, "if a { } else { print a; }", branch(a, nil, block(print(a))))
	parsed(t, "if a { print b; } else { }", branch(a, block(print(b)), nil))
	parsed(t, "if a { print b; return; } else { f(); read x; read y; }", branch(a, block(print(b), give()), block(call("", "f"), read("x"), read("y"))))
}

// P6.2: an else belongs to the if of the block in front of it.
func TestParseOfElse(t *testing.T) {
	parsed(t, "if a { if b { } } else { read x; }", branch(a, block(branch(b, nil, nil)), block(read("x"))))
	parsed(t, "if a { if b { } else { read x; } }", branch(a, block(branch(b, nil, block(read("x")))), nil))
	parsed(t, "if a { if b { } else { read x; } } else { read y; }", branch(a, block(branch(b, nil, block(read("x")))), block(read("y"))))
	parsed(t, "if a { } else { if b { } else { read x; } }", branch(a, nil, block(branch(b, nil, block(read("x"))))))
	parsed(t, "if a { if b { } read x; } else { }", branch(a, block(branch(b, nil, nil), read("x")), nil))
	parsed(t, "while a { if b { } else { read x; } }", loop(a, branch(b, nil, block(read("x")))))
	parsed(t, "if a { while b { } } else { read x; }", branch(a, block(loop(b)), block(read("x"))))
	// There is none behind an else, a while, another statement, and at the beginning of a block.
	parsedAt(t, tokens(t, "if a { } else { } else { }"), 0, 1, branch(a, nil, nil), 7)
	parsedAt(t, tokens(t, "while a { } else { }"), 0, 1, loop(a), 4)
	parsedAt(t, tokens(t, "read x; else { }"), 0, 1, read("x"), 3)
	wrong(t, "if a { if b { } else { } @else { } }")
	wrong(t, "if a { while b { } @else { } }")
	wrong(t, "if a { if b { } read x; @else { } }")
	wrong(t, "if a { @else { } }")
	wrong(t, "@else { }")
	wrongBlock(t, "{ while a { } @else { } }")
	wrongBlock(t, "{ if a { } else { } @else { } }")
	// Behind it there has to be a block.
	wrong(t, "if a { } else @")
	wrong(t, "if a { } else @}")
	wrong(t, "if a { } else @if b { }")
	wrong(t, "if a { } else @read x;")
	wrong(t, "if a { } else { read x; @")
	wrong(t, "if a { if b { } } else @x = 1;")
}

// P6.2: what stands behind a Name and =. A Name with ( behind it begins a call, wherever it leads.
func TestParseOfAssignments(t *testing.T) {
	wrong(t, "x = f() @+ 1;")
	wrong(t, "x = f(1)@[2];")
	wrong(t, "x = f()@();")
	wrong(t, "x = f(@;")
	wrong(t, "x = f(1@;")
	wrong(t, "x = f(1,@);")
	wrong(t, "x = f( @")
	wrong(t, "x = f[1]@(2);")
	wrong(t, "x = (f)@(1);")
	wrong(t, "x = -f@(1);")
	wrong(t, "x = 1 + f@(1);")
	wrong(t, "x = f@{};")
	wrong(t, "x = f @f();")
	wrong(t, "x = new f@();")
	wrong(t, "x = new@;")
	wrong(t, "x = new @new 1;")
	wrong(t, "x = new @int[3];")
	wrong(t, "x = new 1@, 2;")
	wrong(t, "x = (@new 1);")
	wrong(t, "x = @int(1);")
	wrong(t, "x = len(@1);")
	wrong(t, "x = @read;")
	wrong(t, "x = y @= 1;")
	wrong(t, "x @== 1;")
	parsed(t, "x = len(f);", set("x", api.Expr{Kind: api.ELen, Name: "f"}))
	// Elsewhere an expression has no calls and makes no arrays.
	wrong(t, "x[f@()] = 1;")
	wrong(t, "x[0] = f@();")
	wrong(t, "x[0] = @new 1;")
	wrong(t, "x[@new 1] = 1;")
	wrong(t, "var x int = f@();")
	wrong(t, "var x array = @new 1;")
	wrong(t, "print f@();")
	wrong(t, "return f@();")
	wrong(t, "return @new 1;")
	wrong(t, "if f@() { }")
	wrong(t, "while f@() { }")
	wrong(t, "f(g@());")
	wrong(t, "f(@new 1);")
	wrong(t, "x = f(g@());")
}

// P6.2: statements with a token that is wrong, missing or one too many.
func TestParseOfWrongTokens(t *testing.T) {
	for _, text := range []string{"@", "@;", "@{ }", "@5;", "@(x) = 1;", "@else", "@func f() { }", "@new 1;", "@len(x);", "@int x;", "@true;", "@-x = 1;", "@= 1;", "@, x", "@&& x"} {
		wrong(t, text)
	}
	for _, text := range []string{"x @", "x@;", "x @+ 1;", "x@, y = 1;", "x @y;", "x @5;", "x @{ }", "x @]", "x @!= 1;", "var @", "var@;", "var @5 int;", "var @int x;", "var @len int;", "read @", "read@;", "read @5;", "read @(x);", "read @int;",
		"print @", "print@;", "print @}", "print @int;", "return @", "return @}", "return @int;", "return @read x;", "if @", "if @{ }", "if @;", "if @read x;", "while @", "while @{ }", "while @}", "while @if"} {
		wrong(t, text)
	}
	for _, text := range []string{"var x @", "var x@;", "var x @= 1;", "var x@, y int;", "var x @x;", "var x @len;", "var x @new;", "var x @func;", "var x @5;", "read x @", "read x@, y;", "read x @= 1;", "read x@[0];", "read x @}", "print a @", "print a@, b;", "print a @b;", "print a @}", "return a @", "return a@, b;", "return a @}",
		"if a @", "if a@;", "if a @}", "if a @read x;", "if a @else { }", "if a @if b { }", "while a @", "while a@;", "while a @read x;", "while a @= b { }", "x = @", "x = @;", "x = @}", "x = @= 1;", "x[ @", "x[@];", "f( @", "f(@;", "f(@,);", "f( @}", "f(@int);"} {
		wrong(t, text)
	}
	for _, text := range []string{"var x int @", "var x int @x;", "var x int@, y;", "var x int@[3];", "var x int @== 1;", "var x int @}", "if a { @", "if a { @;", "if a { @)", "if a { @else", "while a { @", "while a { @{", "x[a @", "x[a@)", "x[a@;", "x[a@, b] = 1;", "x = a @", "x = a @}", "x = a @b;", "x = a@, b;", "f() @", "f() @}", "f() @g();", "f() @= 1;", "f() @{ }", "f(a @", "f(a@;", "f(a @b);", "f(a@]"} {
		wrong(t, text)
	}
	wrong(t, "var x int = @")
	wrong(t, "var x int = @;")
	wrong(t, "var x int = @int;")
	wrong(t, "var x int = 1 @")
	wrong(t, "var x int = 1@, y int;")
	wrong(t, "x[a] @")
	wrong(t, "x[a]@;")
	wrong(t, "x[a]@(b);")
	wrong(t, "x[a]@[b] = 1;")
	wrong(t, "x[a] @== b;")
	wrong(t, "x[a] = @")
	wrong(t, "x[a] = @;")
	wrong(t, "x[a] = b @")
	wrong(t, "x[a] = b @}")
	wrong(t, "if a { read x @}")
	wrong(t, "while a { read x; @; }")
	wrong(t, "while a { @) }")
}

// P6.1: blocks with a token that is wrong or missing.
func TestBlocksThatAreWrong(t *testing.T) {
	for _, text := range []string{"", "}", ";", "x = 1;", "( }", "[ ]", "func", "if a { }", "else { }"} {
		noBlockAt(t, tokens(t, text), 0, 1, 0, api.ErrForm)
		// A block that is not there is not too deep.
		noBlockAt(t, tokens(t, text), 0, 21, 0, api.ErrForm)
		noBlockAt(t, tokens(t, text), 0, math.MaxInt, 0, api.ErrForm)
	}
	for _, text := range []string{"{ @", "{ @;", "{ @;}", "{ @{ } }", "{ @) }", "{ @]", "{ @func }", "{ @else { } }", "{ @5; }", "{ @, }", "{ @int }"} {
		wrongBlock(t, text)
	}
	wrongBlock(t, "{ read x; read y @}")
	wrongBlock(t, "{ read x; read y; @")
	wrongBlock(t, "{ read x; @; }")
	wrongBlock(t, "{ read x; @func")
	wrongBlock(t, "{ read x; @5 }")
	wrongBlock(t, "{ if a { read x; } @")
}

// P6.1: as many statements as there are.
func TestBlocksOfManyStatements(t *testing.T) {
	for _, n := range []int{0, 1, 2, 199, 200, 201, 5000} {
		l := tokens(t, "{"+times(n, "read x;")+"}")
		blockAt(t, l, 0, 1, slices.Repeat(block(read("x")), n), len(l))
		blockAt(t, l, 0, 20, slices.Repeat(block(read("x")), n), len(l))
		noBlockAt(t, l[:len(l)-1], 0, 1, len(l)-1, api.ErrForm)
		parsed(t, "while a {"+times(n, "print b;")+"}", loop(a, slices.Repeat(block(print(b)), n)...))
	}
}

// P6.1 and P6.2: an index from 0 to the number of tokens, and others; a depth from 1 on, and others.
func TestIndexesAndDepths(t *testing.T) {
	l := tokens(t, "while a { read x; } print b;")
	parsedAt(t, l, 0, 1, loop(a, read("x")), 7)
	parsedAt(t, l, 3, 1, read("x"), 6)
	parsedAt(t, l, 7, 1, print(b), 10)
	for at, end := range map[int]int{1: 2, 2: 2, 4: 5, 5: 5, 6: 6, 8: 9, 9: 9, 10: 10} {
		wrongAt(t, l, at, 1, end, api.ErrForm)
	}
	for _, at := range []int{0, 1, 3, 4, 5, 6, 7, 8, 9, 10} {
		noBlockAt(t, l, at, 1, at, api.ErrForm)
	}
	blockAt(t, l, 2, 1, block(read("x")), 7)
	for _, at := range []int{-1, -2, math.MinInt, 11, 12, math.MaxInt} {
		for _, depth := range []int{1, 20, 21, math.MaxInt, 0, -1} {
			wrongAt(t, l, at, depth, 0, api.ErrRange)
			noBlockAt(t, l, at, depth, 0, api.ErrRange)
		}
	}
	for _, depth := range []int{0, -1, -20, math.MinInt, math.MinInt + 1} {
		for at := range 11 {
			wrongAt(t, l, at, depth, 0, api.ErrRange)
			noBlockAt(t, l, at, depth, 0, api.ErrRange)
		}
	}
	for _, l := range [][]lexeme.Token{nil, {}} {
		for _, depth := range []int{1, 20, 21, math.MaxInt} {
			wrongAt(t, l, 0, depth, 0, api.ErrForm)
			noBlockAt(t, l, 0, depth, 0, api.ErrForm)
			wrongAt(t, l, 1, depth, 0, api.ErrRange)
			noBlockAt(t, l, 1, depth, 0, api.ErrRange)
			wrongAt(t, l, -1, depth, 0, api.ErrRange)
			noBlockAt(t, l, -1, depth, 0, api.ErrRange)
		}
		wrongAt(t, l, 0, 0, 0, api.ErrRange)
		noBlockAt(t, l, 0, 0, 0, api.ErrRange)
	}
}
