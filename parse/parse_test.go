package parse_test

import (
	"math"
	"slices"
	"strconv"
	"strings"
	"testing"

	"rewind/api"
	"rewind/lexeme"
	"rewind/parse"
	"rewind/shape"
)

// Short ways to write expressions, statements and functions. The number of a statement comes first.

func num(n int64) api.Expr       { return api.Expr{Kind: 1, Num: n} }
func variable(s string) api.Expr { return api.Expr{Kind: 3, Name: s} }

func declare(no int, name string, typ int, args ...api.Expr) api.Stmt {
	return api.Stmt{Kind: 1, No: no, Name: name, Type: typ, Args: args}
}

func read(no int, name string) api.Stmt    { return api.Stmt{Kind: 5, No: no, Name: name} }
func print(no int, e ...api.Expr) api.Stmt { return api.Stmt{Kind: 6, No: no, Args: e} }
func give(no int, e ...api.Expr) api.Stmt  { return api.Stmt{Kind: 8, No: no, Args: e} }

func call(no int, name, callee string, args ...api.Expr) api.Stmt {
	return api.Stmt{Kind: 7, No: no, Name: name, Callee: callee, Args: args}
}

func branch(no int, e api.Expr, body, other []api.Stmt) api.Stmt {
	return api.Stmt{Kind: 9, No: no, Args: []api.Expr{e}, Body: body, Else: other}
}

func loop(no int, e api.Expr, body ...api.Stmt) api.Stmt {
	return api.Stmt{Kind: 10, No: no, Args: []api.Expr{e}, Body: body}
}

func block(l ...api.Stmt) []api.Stmt     { return l }
func params(l ...api.Param) []api.Param  { return l }
func typed(name string, t int) api.Param { return api.Param{Name: name, Type: t} }

func function(name string, params []api.Param, result, count int, body ...api.Stmt) api.Func {
	return api.Func{Name: name, Params: params, Result: result, Body: body, Count: count}
}

// Short ways to write tokens:

func name(s string) lexeme.Token    { return lexeme.Token{Kind: 1, Text: s} }
func number(s string) lexeme.Token  { return lexeme.Token{Kind: 2, Text: s} }
func keyword(s string) lexeme.Token { return lexeme.Token{Kind: 3, Text: s} }
func sign(s string) lexeme.Token    { return lexeme.Token{Kind: 4, Text: s} }

func list(l ...lexeme.Token) []lexeme.Token { return l }

// times returns a text written n times.
func times(n int, text string) string { return strings.Repeat(text+" ", n) }

// tokens returns the tokens of a text.
func tokens(t *testing.T, text string) []lexeme.Token {
	t.Helper()
	l, at, e := lexeme.Scan(text)
	if e != api.OK {
		t.Fatalf("%q has no token at %d", text, at)
	}
	return l
}

// show returns tokens as a string.
func show(l []lexeme.Token) string {
	var s []string
	for i, t := range l {
		if i == 100 {
			s = append(s, "..")
			break
		}
		s = append(s, t.Text)
	}
	return strings.Join(s, " ")
}

// short returns the beginning of a text, and how long this is.
func short(text string) string {
	if len(text) <= 400 {
		return strconv.Quote(text)
	}
	return strconv.Quote(text[:400]) + ".. (" + strconv.Itoa(len(text)) + " bytes)"
}

// placeAt returns the place of an offset, as chapter 1 defines it.
func placeAt(text string, offset int) api.Place {
	front := text[:offset]
	return api.Place{Line: 1 + strings.Count(front, "\n"), Col: offset - strings.LastIndex(front, "\n")}
}

// sameExpr reports whether two expressions are equal in all fields, whatever shape they have.
func sameExpr(a, b api.Expr) bool {
	return a.Kind == b.Kind && a.Op == b.Op && a.Num == b.Num && a.Name == b.Name && slices.EqualFunc(a.Args, b.Args, sameExpr)
}

// sameStmt reports whether two statements are equal in all fields, numbers as well, whatever shape they have.
func sameStmt(a, b api.Stmt) bool {
	return a.Kind == b.Kind && a.No == b.No && a.Name == b.Name && a.Type == b.Type && a.Callee == b.Callee &&
		slices.EqualFunc(a.Args, b.Args, sameExpr) && slices.EqualFunc(a.Body, b.Body, sameStmt) && slices.EqualFunc(a.Else, b.Else, sameStmt)
}

// same reports whether two functions are equal in all fields, numbers as well, whatever shape they have.
func same(a, b api.Func) bool {
	return a.Name == b.Name && slices.Equal(a.Params, b.Params) && a.Result == b.Result && a.Count == b.Count && slices.EqualFunc(a.Body, b.Body, sameStmt)
}

// funcAt reports an error if Func does not return this function and this index.
func funcAt(t *testing.T, l []lexeme.Token, at int, want api.Func, wantEnd int) {
	t.Helper()
	got, end, e := parse.Func(l, at)
	if !same(got, want) || end != wantEnd || e != api.OK {
		t.Errorf("Func(%s, %d) = %+v, %d, %d; want %+v, %d", show(l), at, got, end, e, want, wantEnd)
	}
}

// noFuncAt reports an error if Func does not return this index and this error, and no function.
func noFuncAt(t *testing.T, l []lexeme.Token, at, wantEnd int, want api.Errno) {
	t.Helper()
	got, end, e := parse.Func(l, at)
	if !same(got, api.Func{}) || end != wantEnd || e != want {
		t.Errorf("Func(%s, %d) = %+v, %d, %d; want %d, %d", show(l), at, got, end, e, wantEnd, want)
	}
}

// program reports an error if a text is not read as these functions.
func program(t *testing.T, text string, want ...api.Func) {
	t.Helper()
	got, p, e := parse.Program(text)
	if !slices.EqualFunc(got.Funcs, want, same) || p != (api.Place{}) || e != api.OK {
		t.Errorf("Program(%s) = %+v, %v, %d; want %+v", short(text), got, p, e, want)
	}
	if shape.Check(got) != api.OK {
		t.Errorf("Program(%s) = %+v, which has not the right shape", short(text), got)
	}
}

// noProgram reports an error if a text does not have this error at this place, or if there is a program besides.
func noProgram(t *testing.T, text string, want api.Place, wantErr api.Errno) {
	t.Helper()
	got, p, e := parse.Program(text)
	if len(got.Funcs) != 0 || p != want || e != wantErr {
		t.Errorf("Program(%s) = %+v, %v, %d; want %v, %d", short(text), got, p, e, want, wantErr)
	}
}

// marked returns a text without the @ in it, and the offset at which this stands.
func marked(text string) (string, int) {
	front, behind, _ := strings.Cut(text, "@")
	return front + behind, len(front)
}

// fronts are texts of functions that are right. Behind them, all is as without them, further on.
var fronts = []string{"", "func first() {\n}\n", "func f(n int, b bool) array { if b { print n; } else { while b { } } var a array; return a; } // is\r\n func g() { }\t"}

// readAs reports an error if a text is not one function, which is this one: for both functions, alone and with functions in front of it and behind.
func readAs(t *testing.T, text string, want api.Func) {
	t.Helper()
	for _, front := range fronts {
		before := tokens(t, front)
		l := tokens(t, front+text)
		funcAt(t, l, len(before), want, len(l))
		funcAt(t, slices.Concat(l, before, list(name("x"))), len(before), want, len(l))
		first, _, _ := parse.Program(front)
		program(t, front+text, slices.Concat(first.Funcs, []api.Func{want})...)
		program(t, front+text+" "+front, slices.Concat(first.Funcs, []api.Func{want}, first.Funcs)...)
	}
}

// mistaken reports an error if the first function of a text does not have this error at the token, or at the end, in front of which a @ stands.
func mistaken(t *testing.T, text string, want api.Errno) {
	t.Helper()
	for _, front := range fronts {
		whole, offset := marked(front + text)
		l := tokens(t, whole)
		// Only what scans in itself stands in front of the mark.
		noFuncAt(t, l, len(tokens(t, front)), len(tokens(t, whole[:offset])), want)
		noProgram(t, whole, placeAt(whole, offset), want)
	}
}

// wrong reports an error if the first function of a text does not have ErrForm at the token that is marked.
func wrong(t *testing.T, text string) {
	t.Helper()
	mistaken(t, text, api.ErrForm)
}

// P7.1 and P7.2: the table of the chapter.
func TestExamplesOfTheChapter(t *testing.T) {
	program(t, "func main() { print 1; }", function("main", nil, api.None, 1, print(0, num(1))))
	program(t, "")
	program(t, "// nothing")
	program(t, "func f(n int, b bool) array { var a array; return a; }",
		function("f", params(typed("n", api.Int), typed("b", api.Bool)), api.Array, 2, declare(0, "a", api.Array), give(1, variable("a"))))
	for text, want := range map[string]api.Place{
		"func main() { print 1; } }": {Line: 1, Col: 26},
		"func main() { print 1":      {Line: 1, Col: 22},
		"func 1() { }":               {Line: 1, Col: 6},
		"func f(int) { }":            {Line: 1, Col: 8},
		"func f(a) { }":              {Line: 1, Col: 9},
		"func f(a int,) { }":         {Line: 1, Col: 14},
		"func f() { @ }":             {Line: 1, Col: 12},
		"func f(len int) { }":        {Line: 1, Col: 8},
	} {
		noProgram(t, text, want, api.ErrForm)
	}
	noProgram(t, strings.Repeat("func f() { }\n", 21), api.Place{Line: 21, Col: 1}, api.ErrMany)
}

// words are the words of the types by their numbers; None has none.
var words = [...]string{"", "int", "bool", "array"}

// P7.1: each list of up to three parameters, with each result type.
func TestParamsAndResults(t *testing.T) {
	names := [...]string{"n", "b_1", "abcdefghijklmnop"}
	var look func(l []api.Param, texts []string)
	look = func(l []api.Param, texts []string) {
		head := "func f(" + strings.Join(texts, ", ") + ") "
		for result, word := range words {
			readAs(t, head+word+" { }", function("f", l, result, 0))
			readAs(t, head+word+" { return n; }", function("f", l, result, 1, give(0, variable("n"))))
		}
		if len(l) == 3 {
			return
		}
		for typ := api.Int; typ <= api.Array; typ++ {
			name := names[len(l)]
			look(append(slices.Clip(l), typed(name, typ)), append(slices.Clip(texts), name+" "+words[typ]))
		}
	}
	look(nil, nil)
}

// P7.1: names that can be given to a function and its parameters, also twice.
func TestNames(t *testing.T) {
	for _, s := range strings.Fields("f main F x1 a_ a_1 Func INT Len int8 intx lengt abcdefghijklmnop A234567890123456") {
		readAs(t, "func "+s+"() { }", function(s, nil, api.None, 0))
		readAs(t, "func f("+s+" int) { }", function("f", params(typed(s, api.Int)), api.None, 0))
		readAs(t, "func "+s+"("+s+" bool, "+s+" array) int { read "+s+"; }", function(s, params(typed(s, api.Bool), typed(s, api.Array)), api.Int, 1, read(0, s)))
	}
}

// P7.1: the numbers of statements, those of the block Body before those of the block Else.
func TestNumbers(t *testing.T) {
	x, y := variable("x"), variable("y")
	readAs(t, "func f() { read x; }", function("f", nil, api.None, 1, read(0, "x")))
	readAs(t, "func f() { read x; read y; read z; }", function("f", nil, api.None, 3, read(0, "x"), read(1, "y"), read(2, "z")))
	readAs(t, "func f() { while x { } read y; }", function("f", nil, api.None, 2, loop(0, x), read(1, "y")))
	readAs(t, "func f() { while x { read x; while y { read y; } read z; } print x; }",
		function("f", nil, api.None, 6, loop(0, x, read(1, "x"), loop(2, y, read(3, "y")), read(4, "z")), print(5, x)))
	readAs(t, "func f() { if x { read x; read y; } else { read z; print x; } return; }",
		function("f", nil, api.None, 6, branch(0, x, block(read(1, "x"), read(2, "y")), block(read(3, "z"), print(4, x))), give(5)))
	readAs(t, "func f() { if x { } else { if y { read x; } else { read y; } read z; } }",
		function("f", nil, api.None, 5, branch(0, x, nil, block(branch(1, y, block(read(2, "x")), block(read(3, "y"))), read(4, "z")))))
	readAs(t, "func f() { if x { if y { if x { read x; } else { } } else { read y; } } else { read z; } f(); }",
		function("f", nil, api.None, 7, branch(0, x, block(branch(1, y, block(branch(2, x, block(read(3, "x")), nil)), block(read(4, "y")))), block(read(5, "z"))), call(6, "", "f")))
}

// P7.1: a statement of each kind.
func TestStatements(t *testing.T) {
	a, one := variable("a"), num(1)
	readAs(t, "func f() { var a int; var b bool = a; a = 1; a[1] = a; a = new 1; read a; print a; f(1, a); a = f(); return a; return; if a { } while a { } }",
		function("f", nil, api.None, 13, declare(0, "a", api.Int), declare(1, "b", api.Bool, a),
			api.Stmt{Kind: 2, No: 2, Name: "a", Args: []api.Expr{one}}, api.Stmt{Kind: 3, No: 3, Name: "a", Args: []api.Expr{one, a}}, api.Stmt{Kind: 4, No: 4, Name: "a", Args: []api.Expr{one}},
			read(5, "a"), print(6, a), call(7, "", "f", one, a), call(8, "a", "f"), give(9, a), give(10), branch(11, a, nil, nil), loop(12, a)))
}

// P7.2: programs of several functions, in their order; names may be the same.
func TestPrograms(t *testing.T) {
	f, g, h := "func f(a int) { print a; } ", "func g(a bool, b array) array { return b; } ", "func f() { if a { read x; } else { read y; } } "
	wantF := function("f", params(typed("a", api.Int)), api.None, 1, print(0, variable("a")))
	wantG := function("g", params(typed("a", api.Bool), typed("b", api.Array)), api.Array, 1, give(0, variable("b")))
	wantH := function("f", nil, api.None, 3, branch(0, variable("a"), block(read(1, "x")), block(read(2, "y"))))
	program(t, f, wantF)
	program(t, f+g, wantF, wantG)
	program(t, g+f, wantG, wantF)
	program(t, f+g+h, wantF, wantG, wantH)
	program(t, h+h+f+h+g, wantH, wantH, wantF, wantH, wantG)
	program(t, strings.ReplaceAll(h+g+f, " ", "\n"), wantH, wantG, wantF)
	program(t, "func f(a int){print a;}func g(a bool,b array)array{return b;}func f(){if a{read x;}else{read y;}}", wantF, wantG, wantH)
	program(t, "// f\nfunc f ( a int ) {\n\t// prints\n\tprint a;\r\n}\n\n// g\n\nfunc // g\ng(a bool, // a\nb array // b\n) array { return b; }// h", wantF, wantG)
}

// P7.2: texts without tokens.
func TestTextsWithoutTokens(t *testing.T) {
	for _, text := range []string{"", " ", "\n", "\t\r\n ", "//", "// nothing", "//\n", "// func f() {", "// a\n// b", "\n// }\n\n", "// \xff\x00$ func", "///", "// //\t"} {
		program(t, text)
	}
}

// P7.1 and P7.2: with each token of the head that can follow, others than these are wrong.
func TestHeadsThatAreWrong(t *testing.T) {
	for _, text := range []string{"@f", "@f() { }", "@var x int;", "@{ }", "@}", "@;", "@(", "@1", "@return;", "@Func f() { }", "@print 1;", "@main"} {
		wrong(t, text)
	}
	for _, text := range []string{"func @", "func @1() { }", "func @() { }", "func @func f() { }", "func @int() { }", "func @len() { }", "func @{ }", "func @;", "func @true() { }", "func @(f)() { }"} {
		wrong(t, text)
	}
	for _, text := range []string{"func f @", "func f @{ }", "func f @int { }", "func f @[a int] { }", "func f @a int { }", "func f @) { }", "func f @, g() { }", "func f @= 1;", "func f @;", "func f @1"} {
		wrong(t, text)
	}
	for _, text := range []string{"func f( @", "func f(@, a int) { }", "func f(@int) { }", "func f(@int a) { }", "func f(@len int) { }", "func f(@var a int) { }", "func f(@{ }", "func f(@() { }", "func f(@1 int) { }", "func f(@;) { }"} {
		wrong(t, text)
	}
	for _, text := range []string{"func f(a @", "func f(a@) { }", "func f(a@, b int) { }", "func f(a @b) { }", "func f(a @len) { }", "func f(a @1) { }", "func f(a @Int) { }", "func f(a @func) { }", "func f(a @= int) { }", "func f(a @[]int) { }", "func f(a int, b @) { }", "func f(a int, b @c int) { }", "func f(a int, b@, c int) { }"} {
		wrong(t, text)
	}
	for _, text := range []string{"func f(a int @", "func f(a int @b int) { }", "func f(a int @int) { }", "func f(a int@; b int) { }", "func f(a int @{ }", "func f(a int@[]) { }", "func f(a int @= 1) { }"} {
		wrong(t, text)
	}
	for _, text := range []string{"func f(a int, @", "func f(a int,@) { }", "func f(a int,@, b int) { }", "func f(a int, @int) { }", "func f(a int, @len int) { }", "func f(a int, @func", "func f(a int, b bool,@) { }", "func f(a int, b bool, @1 int) { }"} {
		wrong(t, text)
	}
	for _, text := range []string{"func f() @", "func f() @f { }", "func f() @;", "func f()@() { }", "func f() @len { }", "func f() @print 1;", "func f() @}", "func f() @func g() { }", "func f() @(int) { }", "func f()@, g() { }", "func f()@) { }", "func f() @1"} {
		wrong(t, text)
	}
	for _, text := range []string{"func f() int @", "func f() int @int { }", "func f() int@, bool { }", "func f() bool @x { }", "func f() array@[] { }", "func f() int @}", "func f() int@;", "func f() int @print 1;", "func f() int @func g() { }"} {
		wrong(t, text)
	}
}

// P7.1 and P7.2: what is wrong in the block.
func TestBlocksThatAreWrong(t *testing.T) {
	for _, text := range []string{"{ @", "{ @;", "{ @func g() { }", "{ @{ } }", "{ @int x; }", "{ var x @; }", "{ var x int @}", "{ read x @}", "{ print @; }", "{ print f@(); }", "{ x = 1 @", "{ read x; @", "{ if @{ } }", "{ if a { } else @}", "{ if a { @", "{ if a { } @", "{ while a { read x @} }", "{ while a { } @else { } }", "{ f(a@; }", "{ x = new @}", "{ return 1 @2; }", "{ @) }"} {
		wrong(t, "func f() "+text)
		wrong(t, "func f(a int, b bool) array "+text)
	}
	// Behind the block another function begins, which matters to Program alone.
	for _, text := range []string{"func f() { } @}", "func f() { } @;", "func f() { } @{ }", "func f() { } @x", "func f() { } @print 1;", "func f() { } func @", "func f() { } func @func", "func f() { } func g @{ }", "func f() { } func g() { print @; }"} {
		for _, front := range fronts {
			whole, offset := marked(front + text)
			noProgram(t, whole, placeAt(whole, offset), api.ErrForm)
			l, at := tokens(t, whole), len(tokens(t, front))
			funcAt(t, l, at, function("f", nil, api.None, 0), at+6)
		}
	}
}

// P7.1: an index from 0 to the number of tokens, and others.
func TestIndexes(t *testing.T) {
	l := tokens(t, "func f(a int) { read x; } func g() bool { }")
	funcAt(t, l, 0, function("f", params(typed("a", api.Int)), api.None, 1, read(0, "x")), 11)
	funcAt(t, l, 11, function("g", nil, api.Bool, 0), 18)
	for at := range len(l) + 1 {
		if at != 0 && at != 11 {
			noFuncAt(t, l, at, at, api.ErrForm)
		}
	}
	for _, at := range []int{-1, -2, -18, math.MinInt, -1 << 32, 19, 20, 36, 1 << 32, math.MaxInt} {
		noFuncAt(t, l, at, 0, api.ErrRange)
	}
	for _, l := range [][]lexeme.Token{nil, {}} {
		noFuncAt(t, l, 0, 0, api.ErrForm)
		noFuncAt(t, l, 1, 0, api.ErrRange)
		noFuncAt(t, l, -1, 0, api.ErrRange)
	}
	// The index of a token that is wrong, and of a function that is too large, is one of the whole list.
	noFuncAt(t, tokens(t, "x x func f(a) { }"), 2, 6, api.ErrForm)
	noFuncAt(t, tokens(t, "func f("), 0, 3, api.ErrForm)
	noFuncAt(t, tokens(t, "x x func f() { f(1, 2, 3, 4, 5, 6, 7, 8, 9); }"), 2, 2, api.ErrMany)
}

// P7.2: texts in which no token begins at an offset, whatever is wrong besides.
func TestTextsThatScanRefuses(t *testing.T) {
	for _, text := range []string{"@$", "@&", " @$", "\n\n  @#", "func @_f() { }", "func f@.g() { }", "func f() { @\x00 }", "func f() { @\"a\" }", "func f() { print @01; }", "func f() { print @12a; }", "func f() { print @9223372036854775808; }", "func @abcdefghijklmnopq() { }", "func f() { }\n@'", "// nothing\n@\\", "func f() { print 1 @| 2; }", "func f() { }\r\n\t@\xc3\xa9", "func\nf(a\nint)\n{\n  @~\n}",
		// What the tokens in front of the offset say does not matter.
		"} @$", "func 1() { @? }", "func f() { print\n;\n} @`", times(25, "func f() { }") + "@$", "func f() {" + times(300, "read x;") + "@& }"} {
		whole, offset := marked(text)
		noProgram(t, whole, placeAt(whole, offset), api.ErrForm)
	}
}

// P7.2: the place of a token is that of its first byte; that of the end is behind all that follows the last token.
func TestPlaces(t *testing.T) {
	for text, want := range map[string]string{
		"func":                    "1:5",
		"func ":                   "1:6",
		"func\n":                  "2:1",
		"func // f":               "1:10",
		"func f() {\n":            "2:1",
		"func f() {\n\n  ":        "3:3",
		"func f() {\n}\n}":        "3:1",
		"func f() {\n}\n\t}":      "3:2",
		"\n\nfunc f() {\n\tx 1;}": "4:4",
		"func f() { print 1":      "1:19",
		"func f() { print 1 // }": "1:24",
		"}":                       "1:1",
		"// a\n}":                 "2:1",
		"\r\n\r\nfunc 1":          "3:6",
		"func // é\n é":           "2:2",
		"func f(a // é\n, b int)": "2:1",
	} {
		line, col, _ := strings.Cut(want, ":")
		p := api.Place{}
		p.Line, _ = strconv.Atoi(line)
		p.Col, _ = strconv.Atoi(col)
		noProgram(t, text, p, api.ErrForm)
	}
}
