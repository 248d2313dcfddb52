package parse_test

import (
	"math"
	"slices"
	"strconv"
	"strings"
	"testing"

	"rewind/api"
	"rewind/lexeme"
	"rewind/parse"
)

// many reports an error if the first function of a text is not too large: its func is the token that is returned.
func many(t *testing.T, text string) {
	t.Helper()
	mistaken(t, "@"+text, api.ErrMany)
}

// right reports an error if a text is not one function, as the definitions say.
func right(t *testing.T, text string) {
	t.Helper()
	l := tokens(t, text)
	want, end, e := defined(l, 0)
	if e != api.OK || end != len(l) {
		t.Fatalf("%s is not a function: %d, %d", text, end, e)
	}
	readAs(t, text, want)
}

// row returns n texts, all alike, with a comma between two of them.
func row(n int, s string) string { return several(n, func() string { return s }) }

// P7.1: 8 parameters and 9.
func TestManyParameters(t *testing.T) {
	for n := range 9 {
		var want []api.Param
		for i := range n {
			want = append(want, typed("a", 1+i%3))
		}
		readAs(t, "func f("+row(n, "a int")+") int { }", function("f", slices.Repeat(params(typed("a", api.Int)), n), api.Int, 0))
		var texts []string
		for _, p := range want {
			texts = append(texts, p.Name+" "+words[p.Type])
		}
		readAs(t, "func f("+strings.Join(texts, ",")+") { read x; }", function("f", want, api.None, 1, read(0, "x")))
	}
	for _, n := range []int{9, 10, 16, 17, 100, 256, 264, 700} {
		many(t, "func f("+row(n, "a int")+") { }")
		many(t, "func f("+row(n, "a array")+") bool { read a; }")
	}
	many(t, "func f(a int, b bool, c array, d int, e bool, f array, g int, h bool, i array) { }")
}

// P7.1: a call with 8 arguments and with 9, with a variable for its result and without, and in blocks.
func TestManyArguments(t *testing.T) {
	places := []string{"CALL", "read x; CALL", "CALL read x;", "if a { CALL }", "if a { } else { CALL }", "while a { CALL }", "if a { while b { CALL } }", "while a { if b { } else { CALL } }", "while a { } if a { read x; if b { read y; CALL } }", "if a { } else { while a { while a { CALL } } read x; }"}
	for _, place := range places {
		for _, call := range []string{"f(ARGS);", "x = f(ARGS);"} {
			for _, arg := range []string{"a", "1 + 2", "(a)", "b[1]", "len(a)", "-x"} {
				for _, n := range []int{0, 1, 7, 8} {
					right(t, "func f() { "+strings.Replace(place, "CALL", strings.Replace(call, "ARGS", row(n, arg), 1), 1)+" }")
				}
				for _, n := range []int{9, 10, 17, 264} {
					many(t, "func f() { "+strings.Replace(place, "CALL", strings.Replace(call, "ARGS", row(n, arg), 1), 1)+" }")
				}
			}
		}
	}
	// Whichever of several calls it is.
	eight, nine := "f("+row(8, "a")+");", "f("+row(9, "a")+");"
	right(t, "func f() { "+eight+eight+"if a { "+eight+" }"+eight+"}")
	many(t, "func f() { "+nine+eight+eight+"}")
	many(t, "func f() { "+eight+eight+nine+"}")
	many(t, "func f() { "+eight+"if a { "+eight+" } else { "+nine+" }"+eight+"}")
	many(t, "func f() { "+times(150, eight)+nine+"}")
	// In an expression a call is not read at all.
	for _, n := range []int{0, 8, 9} {
		wrong(t, "func f() { print f@("+row(n, "a")+"); }")
		wrong(t, "func f() { x = 1 + f@("+row(n, "a")+"); }")
		wrong(t, "func f() { while a { return f@("+row(n, "a")+"); } }")
	}
}

// P7.1: 200 statements and 201, in front of blocks, in them and behind them.
func TestManyStatements(t *testing.T) {
	splits := [][4]int{{198, 0, 0, 0}, {0, 198, 0, 0}, {0, 0, 198, 0}, {0, 0, 0, 198}, {50, 50, 49, 49}, {1, 1, 195, 1}, {1, 195, 1, 1}, {97, 1, 1, 99}}
	for _, n := range splits {
		for i := range n {
			build := func() string {
				return "func f() { " + times(n[0], "read x;") + "while b { if a { " + times(n[1], "x = 1;") + "} else { " + times(n[2], "f();") + "} }" + times(n[3], "print a;") + "}"
			}
			right(t, build())
			n[i]++
			many(t, build())
			n[i] += 300
			many(t, build())
			n[i] -= 301
		}
	}
	for _, n := range []int{0, 1, 199, 200} {
		right(t, "func f() { "+times(n, "return;")+"}")
		right(t, "func f() { "+times(n, "if a { }")+"}")
		right(t, "func f() { "+times(n/2, "while a { f(); }")+"}")
	}
	for _, n := range []int{201, 202, 255, 256, 257, 456, 512, 700} {
		many(t, "func f() { "+times(n, "return;")+"}")
		many(t, "func f() { "+times(n, "if a { }")+"}")
	}
	many(t, "func f() { "+times(100, "while a { f(); }")+"read x; }")
	many(t, "func f() { "+times(101, "if a { } else { read x; }")+"}")
	// Those of another function do not count.
	all := "func f() { " + times(200, "f();") + "}"
	want, _, _ := defined(tokens(t, all), 0)
	program(t, all+all+"func g() { }"+all, want, want, function("g", nil, api.None, 0), want)
	whole, offset := marked(all + all + "@func g() { " + times(201, "f();") + "} }")
	noProgram(t, whole, placeAt(whole, offset), api.ErrMany)
}

// P7.1: what is wrong is said first, wherever it is; that the function is too large only if nothing else is wrong with it.
func TestTooLargeAndWrong(t *testing.T) {
	nine := "(" + row(9, "a int") + ")"
	for _, text := range []string{
		"func f(" + row(9, "a int") + " @{ }", "func f(" + row(9, "a int") + ",@) { }", "func f" + nine + "@", "func f" + nine + "int @", "func f" + nine + "@; { }", "func f" + nine + "{ @", "func f" + nine + "{ @; }",
		"func f() { " + times(201, "f();") + "@", "func f() { " + times(201, "f();") + "@; }", "func f() { f(" + row(9, "a") + ") @}", "func f() { f(" + row(9, "a") + "); @", "func f() { x = f(" + row(9, "a") + ",@); }", "func f() { if a { f(" + row(9, "a") + "); } @func",
	} {
		wrong(t, text)
	}
	deep := times(20, "while a {")
	mistaken(t, "func f"+nine+"{ "+times(19, "while a {")+"while a @{ }", api.ErrDeep)
	mistaken(t, "func f() { "+times(201, "f();")+times(19, "while a {")+"while a @{ f(); ; ", api.ErrDeep)
	mistaken(t, "func f() { f("+row(9, "a")+"); print "+times(40, "(")+"@(a; }", api.ErrDeep)
	many(t, "func f"+nine+"{ "+times(19, "while a {")+times(19, "}")+"} } ;")
	many(t, "func f"+nine+"{ f("+row(9, "a")+"); "+times(201, "f();")+" }")
	// Behind a function that is too large nothing is read any more.
	many(t, "func f"+nine+"{ } }")
	many(t, "func f"+nine+"{ } func g() { "+deep)
}

// P7.1 and P7.2: blocks to the depth 20, and the first one that is too deep; the same for expressions.
func TestDeep(t *testing.T) {
	for _, marked := range []string{"while a @{", "if a @{", "if a @{ } else {", "read x; while a @{ } if a {"} {
		x := strings.Replace(marked, "@", "", 1)
		for n := range 20 {
			right(t, "func f() { "+times(n, x)+times(n, "}")+"}")
			right(t, "func f(a int) bool { "+times(n, x)+"read x; "+times(n, "}")+"return; }")
		}
		for _, behind := range []string{"", times(20, "}") + "}", "; }", "} func", times(300, "read x;")} {
			mistaken(t, "func f() { "+times(19, x)+marked+behind, api.ErrDeep)
		}
	}
	for _, text := range []string{times(40, "(") + "@(", times(40, "-") + "@- a", times(20, "-") + "@a", times(20, "a + ") + "@a", times(20, "a[") + "a" + times(19, "]") + "@]"} {
		for _, place := range []string{"print ", "x = ", "return ", "if ", "while ", "f(a, ", "x = f(", "x[", "x = new ", "while a { print ", "if a { } else { x[1] = "} {
			mistaken(t, "func f(a int) { read x; "+place+text, api.ErrDeep)
		}
	}
	right(t, "func f() { print "+times(40, "(")+"a"+times(40, ")")+"; x = "+times(19, "a + ")+"a; }")
	// A block that is not there is not too deep.
	wrong(t, "func f() { "+times(19, "while a {")+"while a @;")
}

// P7.2: 20 functions, a 21st, and tokens that are no function behind 20 functions.
func TestManyFunctions(t *testing.T) {
	f := function("f", nil, api.None, 1, read(0, "x"))
	const one = "func f() {\n\tread x;\n}\n"
	for n := range 21 {
		program(t, strings.Repeat(one, n), slices.Repeat([]api.Func{f}, n)...)
		program(t, strings.Repeat("\n// f\n"+one, n)+" // end", slices.Repeat([]api.Func{f}, n)...)
	}
	for _, behind := range []string{"@func f() { }", "@func f() { } func g() { }", "@func", "@func 1", "@}", "@x", "@;", "@{ }", "@int", "@1", " // g\n\t@g", "@func f(" + row(9, "a int") + ") { }", "@func f() {" + times(20, "while a {"), "@" + times(100, "}"), "@" + one + one + one} {
		whole, offset := marked(strings.Repeat(one, 20) + behind)
		noProgram(t, whole, placeAt(whole, offset), api.ErrMany)
	}
	// What is wrong in front of them comes first.
	for text, want := range map[string]api.Errno{
		strings.Repeat(one, 19) + "func @1() { }" + one + one:                                    api.ErrForm,
		strings.Repeat(one, 19) + "func f() { @":                                                 api.ErrForm,
		strings.Repeat(one, 19) + "@} " + one + one:                                              api.ErrForm,
		strings.Repeat(one, 19) + "@func f(" + row(9, "a int") + ") { } " + one:                  api.ErrMany,
		strings.Repeat(one, 19) + "func f() { " + times(19, "while a {") + "while a @{ } " + one: api.ErrDeep,
		one + "func g() { f(" + row(9, "a") + ") @}" + strings.Repeat(one, 30):                   api.ErrForm,
		"@func g() { f(" + row(9, "a") + "); }" + strings.Repeat(one, 30):                        api.ErrMany,
		strings.Repeat(one, 20) + " func f() { } @$":                                             api.ErrForm,
		strings.Repeat(one, 20) + " } @?":                                                        api.ErrForm,
	} {
		whole, offset := marked(text)
		noProgram(t, whole, placeAt(whole, offset), want)
	}
}

// P7.2: a text of 8,192 bytes and of 8,193, whatever it says.
func TestLongTexts(t *testing.T) {
	f := function("f", nil, api.None, 1, read(0, "x"))
	padded := func(front, pad, behind string, n int) string {
		return front + strings.Repeat(pad, n-len(front)-len(behind)) + behind
	}
	for _, pad := range []string{" ", "\n", "/", "\t", "\r", "\xff"} {
		front := "func f() { read x; } //"
		if strings.TrimSpace(pad) == "" {
			front = "func f() { read "
			program(t, padded(front, pad, "x; }", 8191), f)
			program(t, padded(front, pad, "x; }", 8192), f)
			noProgram(t, padded(front, pad, "x; }", 8193), api.Place{}, api.ErrLong)
			program(t, padded("", pad, "func f() { read x; }", 8192), f)
			noProgram(t, padded("", pad, "func f() { read x; }", 8193), api.Place{}, api.ErrLong)
			front = "func f() { read x; }"
		}
		for _, n := range []int{100, 8191, 8192} {
			program(t, padded(front, pad, "", n), f)
			program(t, padded(front, pad, "\nfunc f() { read x; }", n), f, f)
		}
		for _, n := range []int{8193, 8194, 8192 + 256, 10000, 16384, 1 << 16, 1<<16 + 8192, 1 << 20} {
			noProgram(t, padded(front, pad, "", n), api.Place{}, api.ErrLong)
		}
	}
	program(t, strings.Repeat(" ", 8192))
	for _, x := range []struct {
		front, behind string
	}{{"@$", ""}, {"@}", ""}, {"", "@$"}, {"", "@}"}, {"func f() {", "@"}, {"", "func f@"}, {"", "@func f(" + row(9, "a int") + ") { }"}, {"func f() { " + times(20, "f();"), "@;"}, {times(20, "func f() { }"), "@x"}, {"func f() { print 1 //", "@"}, {"func @1() //", "}"}} {
		text := padded(x.front, " ", x.behind, 8193)
		whole, offset := marked(text)
		if len(whole) != 8192 {
			t.Fatal(len(whole))
		}
		if _, p, e := parse.Program(whole); p != placeAt(whole, offset) || e == api.OK || e == api.ErrLong {
			t.Errorf("Program(%.20q ..) = %v, %d; want %v", whole, p, e, placeAt(whole, offset))
		}
		noProgram(t, whole+" ", api.Place{}, api.ErrLong)
		noProgram(t, " "+whole, api.Place{}, api.ErrLong)
	}
	noProgram(t, strings.Repeat("func f() { }", 700), api.Place{}, api.ErrLong)
	noProgram(t, strings.Repeat("$", 8193), api.Place{}, api.ErrLong)
	// As many tokens and lines as there can be.
	noProgram(t, strings.Repeat("(", 8192), api.Place{Line: 1, Col: 1}, api.ErrForm)
	noProgram(t, "func f() {"+strings.Repeat("\n", 8182), api.Place{Line: 8183, Col: 1}, api.ErrForm)
	noProgram(t, "func f() { print 1"+strings.Repeat("+1", 4087), api.Place{Line: 1, Col: 58}, api.ErrDeep)
	noProgram(t, "func f() {"+strings.Repeat("f();", 2045)+"}", api.Place{Line: 1, Col: 1}, api.ErrMany)
}

// P1: lists of any length.
func TestLongLists(t *testing.T) {
	const n = 100000
	for _, x := range []struct {
		text string
		end  int
		err  api.Errno
	}{
		{times(n, "func"), 1, api.ErrForm},
		{times(n, "func f"), 2, api.ErrForm},
		{"func f(" + times(n, "a int,"), 3*n + 3, api.ErrForm},
		{"func f(" + times(n, "a int,") + "a int) { }", 0, api.ErrMany},
		{"func f() {" + times(n, "read x;"), 3*n + 5, api.ErrForm},
		{"func f() {" + times(n, "read x;") + "}", 0, api.ErrMany},
		{"func f() { f(" + times(n, "a,") + "a); }", 0, api.ErrMany},
		{"func f() {" + times(n, "while a {"), 4 + 3*20, api.ErrDeep},
		{"func f() { print " + times(n, "("), 6 + 40, api.ErrDeep},
		{times(n, "func f() { }"), 6, api.OK},
	} {
		if f, end, e := parse.Func(tokens(t, x.text), 0); end != x.end || e != x.err || (f.Name == "f") != (e == api.OK) {
			t.Errorf("Func(%.20s ..) = %d, %d; want %d, %d", x.text, end, e, x.end, x.err)
		}
	}
	l := tokens(t, times(n, "x")+"func f() { read x; }")
	funcAt(t, l, n, function("f", nil, api.None, 1, read(0, "x")), n+9)
}

// strangers returns tokens that are right nowhere in a function, unless all that matters of them is.
func strangers() []lexeme.Token {
	l := list(lexeme.Token{}, number(""), number("-1"), number("01"), number("x"), number("int"), number("func"), number("("), keyword(""), keyword("x"), keyword("f"), keyword("("), keyword("{"), keyword("Func"), keyword("ints"), keyword("int "), keyword(" int"), keyword("func\n"), keyword("none"),
		sign(""), sign("x"), sign("f"), sign("func"), sign("int"), sign("()"), sign("{}"), sign("( "), sign(" )"), sign(",,"), sign("::"))
	for _, text := range append(strings.Fields("func var if else while return print read new len int bool array true false 5 1a _a a-b ( ) { } , ; = abcdefghijklmnopq"), "", " ", "a ", " a", "a b", "\u00e9", "a\u00e9") {
		l = append(l, name(text))
	}
	for _, kind := range []int{math.MinInt, -1, 0, 5, 6, 1<<32 + 1, 1<<32 + 3, 1<<32 + 4, math.MaxInt} {
		for _, text := range strings.Fields("func f int ( ) , { } ; x") {
			l = append(l, lexeme.Token{Kind: kind, Text: text})
		}
	}
	return l
}

// P7.1: functions that are cut off at each of their tokens.
func TestFunctionsThatAreCutOff(t *testing.T) {
	for _, s := range functions {
		l := tokens(t, s)
		for i := range l {
			noFuncAt(t, l[:i], 0, i, api.ErrForm)
			noFuncAt(t, slices.Clip(slices.Clone(l[:i])), 0, i, api.ErrForm)
			noFuncAt(t, slices.Concat(l, l[:i]), len(l), len(l)+i, api.ErrForm)
			for _, space := range []string{"", " ", "\n", " // }", "\t// a\n\n "} {
				if cut := s[:l[i].At] + space; i > 0 {
					noProgram(t, cut, placeAt(cut, len(cut)), api.ErrForm)
					noProgram(t, s+"\n"+cut, placeAt(s+"\n"+cut, len(s+"\n"+cut)), api.ErrForm)
				}
			}
		}
	}
}

// P7.1: functions with a wrong token in the place of each of them, and with one put in front of each of them.
func TestFunctionsWithWrongTokens(t *testing.T) {
	for _, s := range functions {
		l := tokens(t, s)
		for i := range l {
			for _, x := range strangers() {
				noFuncAt(t, slices.Concat(l[:i], list(x), l[i+1:]), 0, i, api.ErrForm)
				noFuncAt(t, slices.Concat(l[:i], list(x), l[i:]), 0, i, api.ErrForm)
				noFuncAt(t, slices.Concat(l[:i], list(x)), 0, i, api.ErrForm)
			}
		}
	}
}

// P7.1 and P7.2: functions with a token that can stand elsewhere in the place of each of them.
func TestFunctionsWithOtherTokens(t *testing.T) {
	others := append(some(), keyword("func"), keyword("var"), keyword("bool"), keyword("array"), keyword("while"), keyword("return"), keyword("read"), keyword("new"), keyword("len"), keyword("true"), sign("["), sign("]"), sign("-"), sign("=="), number("0"), name("func1"))
	for _, s := range functions {
		l := tokens(t, s)
		for i := range l {
			for _, x := range others {
				for _, other := range [][]lexeme.Token{slices.Concat(l[:i], list(x), l[i+1:]), slices.Concat(l[:i], list(x), l[i:]), slices.Concat(l[:i], l[i+1:])} {
					asDefined(t, other, 0)
					programAsDefined(t, text(other))
				}
			}
		}
	}
}

// P7.1: functions with a token of another kind, but with the same text, in the place of each of them.
func TestFunctionsWithWrongKinds(t *testing.T) {
	for _, s := range functions {
		l := tokens(t, s)
		for i, x := range l {
			for _, kind := range []int{math.MinInt, -1, 0, 1, 2, 3, 4, 5, 1<<32 + 1, 1<<32 + 3, 1<<32 + 4, math.MaxInt} {
				if kind != x.Kind {
					noFuncAt(t, slices.Concat(l[:i], list(lexeme.Token{Kind: kind, Text: x.Text, At: x.At}), l[i+1:]), 0, i, api.ErrForm)
				}
			}
		}
	}
}

// P7.1: the tokens behind a function, and those in front of it, do not matter to Func.
func TestTokensAround(t *testing.T) {
	around := slices.Concat(strangers(), some(), tokens(t, "] ) } else { }"))
	for _, s := range functions {
		l := tokens(t, s)
		want, end, e := defined(l, 0)
		if end != len(l) || e != api.OK {
			t.Fatal(s, end, e)
		}
		for _, x := range around {
			funcAt(t, slices.Concat(l, list(x)), 0, want, end)
			funcAt(t, slices.Concat(l, list(x, sign("{"), sign("}"))), 0, want, end)
			funcAt(t, slices.Concat(list(x), l), 1, want, 1+end)
		}
		funcAt(t, slices.Concat(around, l, around), len(around), want, len(around)+end)
	}
}

// P7.1: texts and kinds matter alone; offsets do not.
func TestOffsetsDoNotMatter(t *testing.T) {
	for i, s := range append(functions, "func f(", "func 1() { }", "func f("+row(9, "a int")+") { }") {
		l := tokens(t, s)
		for k := range l {
			l[k].At = []int{-1, 0, 5, math.MinInt, math.MaxInt}[(i+k)%5]
		}
		asDefined(t, l, 0)
	}
}

// P7.2: a program of functions that differ in all that matters, each of which is found where it has to be.
func TestWholeProgram(t *testing.T) {
	var s string
	var want []api.Func
	for i := range 20 {
		one := "func f" + strconv.Itoa(i) + "(" + row(i%9, "a"+strconv.Itoa(i)+" bool") + ") " + words[i%4] + " {\n" + times(i, "print "+strconv.Itoa(i)+";") + "}\n"
		s += one
		f, _, _ := defined(tokens(t, one), 0)
		want = append(want, f)
		if f.Count != i || len(f.Params) != i%9 || f.Result != i%4 {
			t.Fatalf("%+v", f)
		}
	}
	program(t, s, want...)
}
