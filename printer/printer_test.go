package printer_test

import (
	"math"
	"slices"
	"strings"
	"testing"

	"rewind/api"
	"rewind/printer"
)

// long is a name with as many bytes as a name may have.
const long = "abcdefghijklmnop"

// Short ways to write expressions:

func num(n int64) api.Expr           { return api.Expr{Kind: 1, Num: n} }
func truth(n int64) api.Expr         { return api.Expr{Kind: 2, Num: n} }
func variable(s string) api.Expr     { return api.Expr{Kind: 3, Name: s} }
func length(s string) api.Expr       { return api.Expr{Kind: 7, Name: s} }
func exprs(l ...api.Expr) []api.Expr { return l }

func index(s string, i api.Expr) api.Expr {
	return api.Expr{Kind: 6, Name: s, Args: exprs(i)}
}

func unary(op int, e api.Expr) api.Expr {
	return api.Expr{Kind: 4, Op: op, Args: exprs(e)}
}

func binary(op int, a, b api.Expr) api.Expr {
	return api.Expr{Kind: 5, Op: op, Args: exprs(a, b)}
}

func minus(e api.Expr) api.Expr    { return unary(14, e) }
func not(e api.Expr) api.Expr      { return unary(15, e) }
func plus(a, b api.Expr) api.Expr  { return binary(1, a, b) }
func times(a, b api.Expr) api.Expr { return binary(3, a, b) }

var a, b, c = variable("a"), variable("b"), variable("c")

// Short ways to write statements:

func declare(name string, typ int, args ...api.Expr) api.Stmt {
	return api.Stmt{Kind: 1, Name: name, Type: typ, Args: args}
}

func set(name string, e api.Expr) api.Stmt {
	return api.Stmt{Kind: 2, Name: name, Args: exprs(e)}
}

func store(name string, at, e api.Expr) api.Stmt {
	return api.Stmt{Kind: 3, Name: name, Args: exprs(at, e)}
}

func create(name string, e api.Expr) api.Stmt {
	return api.Stmt{Kind: 4, Name: name, Args: exprs(e)}
}

func read(name string) api.Stmt   { return api.Stmt{Kind: 5, Name: name} }
func show(e api.Expr) api.Stmt    { return api.Stmt{Kind: 6, Args: exprs(e)} }
func give(l ...api.Expr) api.Stmt { return api.Stmt{Kind: 8, Args: l} }

func call(name, callee string, args ...api.Expr) api.Stmt {
	return api.Stmt{Kind: 7, Name: name, Callee: callee, Args: args}
}

func branch(e api.Expr, body, other []api.Stmt) api.Stmt {
	return api.Stmt{Kind: 9, Args: exprs(e), Body: body, Else: other}
}

func loop(e api.Expr, body ...api.Stmt) api.Stmt {
	return api.Stmt{Kind: 10, Args: exprs(e), Body: body}
}

func block(l ...api.Stmt) []api.Stmt { return l }

// Short ways to write functions and programs:

func params(l ...api.Param) []api.Param { return l }

// numbered writes the numbers of statements from a number on, and returns the one behind them.
func numbered(l []api.Stmt, no int) int {
	for i := range l {
		l[i].No = no
		no = numbered(l[i].Else, numbered(l[i].Body, no+1))
	}
	return no
}

// copied returns statements in new memory, apart from their expressions.
func copied(l []api.Stmt) []api.Stmt {
	l = slices.Clone(l)
	for i, s := range l {
		l[i].Body, l[i].Else = copied(s.Body), copied(s.Else)
	}
	return l
}

// function returns a function with right numbers.
func function(name string, l []api.Param, result int, body ...api.Stmt) api.Func {
	body = copied(body)
	return api.Func{Name: name, Params: l, Result: result, Body: body, Count: numbered(body, 0)}
}

func program(l ...api.Func) api.Program { return api.Program{Funcs: l} }

// text returns lines with a line feed behind each of them; > is a tab.
func text(lines ...string) string {
	var s string
	for _, line := range lines {
		s += strings.ReplaceAll(line, ">", "\t") + "\n"
	}
	return s
}

// answer reports an error if a function of the package did not return this text, or did not return this error and no text.
func answer(t *testing.T, what any, got string, e api.Errno, want string, wanted api.Errno) {
	t.Helper()
	if got != want || e != wanted {
		t.Errorf("%.300v: %.300q, %d; want %.300q, %d", what, got, e, want, wanted)
	}
}

// expression reports an error if an expression does not have this text.
func expression(t *testing.T, e api.Expr, want string) {
	t.Helper()
	got, err := printer.Expr(e)
	answer(t, e, got, err, want, api.OK)
}

// head reports an error if a statement does not have this head.
func head(t *testing.T, s api.Stmt, want string) {
	t.Helper()
	got, e := printer.Head(s)
	answer(t, s, got, e, want, api.OK)
}

// printed reports an error if a function does not have these lines, also as a program, and in one; > is a tab.
func printed(t *testing.T, f api.Func, lines ...string) {
	t.Helper()
	want := text(lines...)
	got, e := printer.Func(f)
	answer(t, f, got, e, want, api.OK)
	got, e = printer.Program(program(f))
	answer(t, f, got, e, want, api.OK)
	got, e = printer.Program(program(f, function("g", nil, 0), f))
	answer(t, f, got, e, want+"\nfunc g() {\n}\n\n"+want, api.OK)
}

// listed reports an error if a function does not have this list; > is a tab.
func listed(t *testing.T, f api.Func, lines ...string) {
	t.Helper()
	got, e := printer.List(f)
	answer(t, f, got, e, text(lines...), api.OK)
}

// branching is the function of the chapter's examples.
func branching() api.Func {
	n := variable("n")
	return function("f", params(api.Param{Name: "n", Type: 1}), 1, branch(binary(8, n, num(1)), block(give(num(0))), block(show(n))))
}

// P8.1 to P8.3: the chapter's examples.
func TestExamples(t *testing.T) {
	x := variable("x")
	expression(t, times(minus(plus(a, num(1))), index("b", num(2))), "(-(a + 1)) * b[2]")
	expression(t, not(truth(1)), "!true")
	expression(t, minus(minus(x)), "-(-x)")
	expression(t, binary(2, binary(2, a, b), c), "(a - b) - c")
	head(t, call("x", "f", num(1), num(2)), "x = f(1, 2);")
	head(t, branch(binary(8, x, num(1)), block(show(x)), nil), "if x < 1")
	printed(t, branching(),
		"func f(n int) int {",
		">if n < 1 {",
		">>return 0;",
		">} else {",
		">>print n;",
		">}",
		"}",
	)
	listed(t, branching(),
		"    func f(n int) int {",
		"  0 >if n < 1 {",
		"  1 >>return 0;",
		"    >} else {",
		"  2 >>print n;",
		"    >}",
		"    }",
	)
}

// P8.1: each row of the table of expressions; the least number and the greatest.
func TestKindsOfExpressions(t *testing.T) {
	for n, want := range map[int64]string{0: "0", 1: "1", 9: "9", 10: "10", 907: "907", math.MaxInt32 + 1: "2147483648", math.MaxInt64: "9223372036854775807"} {
		expression(t, num(n), want)
	}
	expression(t, truth(0), "false")
	expression(t, truth(1), "true")
	for _, s := range []string{"a", "x", "Len", "a_1", "N", "A", "TRUE", "NAME", long} {
		expression(t, variable(s), s)
		expression(t, length(s), "len("+s+")")
		expression(t, index(s, num(5)), s+"[5]")
		expression(t, index(s, variable(s)), s+"["+s+"]")
	}
	expression(t, minus(a), "-a")
	expression(t, not(a), "!a")
	for i, sign := range strings.Fields("+ - * / % == != < <= > >= && ||") {
		expression(t, binary(1+i, a, b), "a "+sign+" b")
		expression(t, binary(1+i, num(2), a), "2 "+sign+" a")
	}
}

// P8.1: an operand that is itself an operation stands in parentheses, on the left and on the right, whatever both operators are; no other operand does, and no index.
func TestOperands(t *testing.T) {
	for s, e := range map[string]api.Expr{"7": num(7), "true": truth(1), "false": truth(0), "x": variable("x"), "len(x)": length("x"), "x[0]": index("x", num(0)), "x[a + b]": index("x", plus(a, b)), "x[-a]": index("x", minus(a))} {
		expression(t, minus(e), "-"+s)
		expression(t, not(e), "!"+s)
		expression(t, plus(e, a), s+" + a")
		expression(t, plus(a, e), "a + "+s)
		expression(t, index("y", e), "y["+s+"]")
	}
	signs := strings.Fields("+ - * / % == != < <= > >= && ||")
	for i, inner := range signs {
		e := binary(1+i, a, b)
		s := "(a " + inner + " b)"
		expression(t, minus(e), "-"+s)
		expression(t, not(e), "!"+s)
		expression(t, index("y", e), "y["+s[1:len(s)-1]+"]")
		for k, outer := range signs {
			expression(t, binary(1+k, e, c), s+" "+outer+" c")
			expression(t, binary(1+k, c, e), "c "+outer+" "+s)
			expression(t, binary(1+k, e, e), s+" "+outer+" "+s)
		}
	}
	for op, inner := range map[int]string{14: "-", 15: "!"} {
		e := unary(op, a)
		s := "(" + inner + "a)"
		expression(t, minus(e), "-"+s)
		expression(t, not(e), "!"+s)
		expression(t, index("y", e), "y["+inner+"a]")
		for k, outer := range signs {
			expression(t, binary(1+k, e, c), s+" "+outer+" c")
			expression(t, binary(1+k, c, e), "c "+outer+" "+s)
		}
	}
	expression(t, binary(2, a, binary(2, b, c)), "a - (b - c)")
	expression(t, index("a", index("b", index("c", minus(plus(a, minus(b)))))), "a[b[c[-(a + (-b))]]]")
	expression(t, not(times(plus(a, b), index("a", plus(length("a"), minus(num(0)))))), "!((a + b) * a[len(a) + (-0)])")
}

// P8.1: each row of the table of heads, with each of its forms.
func TestHeads(t *testing.T) {
	for typ, word := range []string{1: "int", 2: "bool", 3: "array"} {
		if typ > 0 {
			head(t, declare("x", typ), "var x "+word+";")
			head(t, declare(long, typ, num(2)), "var "+long+" "+word+" = 2;")
			head(t, declare("x", typ, plus(a, minus(b))), "var x "+word+" = a + (-b);")
		}
	}
	head(t, set("x", num(0)), "x = 0;")
	head(t, set("x", plus(a, b)), "x = a + b;")
	head(t, set("x", not(variable("x"))), "x = !x;")
	head(t, store("x", num(0), num(1)), "x[0] = 1;")
	head(t, store("x", plus(a, b), minus(c)), "x[a + b] = -c;")
	head(t, store("x", index("y", a), index("x", b)), "x[y[a]] = x[b];")
	head(t, create("x", num(3)), "x = new 3;")
	head(t, create("x", plus(a, b)), "x = new a + b;")
	head(t, read("x"), "read x;")
	head(t, show(a), "print a;")
	head(t, show(times(a, plus(b, c))), "print a * (b + c);")
	head(t, call("", "f"), "f();")
	head(t, call("", "f", a), "f(a);")
	head(t, call("", "f", a, plus(b, num(1)), minus(c)), "f(a, b + 1, -c);")
	head(t, call("x", "f"), "x = f();")
	head(t, call("x", "f", truth(0)), "x = f(false);")
	head(t, call("f", "f", a, b), "f = f(a, b);")
	head(t, call("x", "f", exprs(num(1), num(2), num(3), num(4), num(5), num(6), num(7), num(8))...), "x = f(1, 2, 3, 4, 5, 6, 7, 8);")
	head(t, give(), "return;")
	head(t, give(num(0)), "return 0;")
	head(t, give(plus(a, b)), "return a + b;")
	head(t, branch(a, nil, nil), "if a")
	head(t, branch(plus(a, b), nil, nil), "if a + b")
	head(t, loop(a), "while a")
	head(t, loop(not(a)), "while !a")
}

// P8.1: what stands for something in the table can be a name; it is written as it is.
func TestNamesAsInTheTable(t *testing.T) {
	for _, s := range []string{"N", "T", "C", "A", "B", "L", "NAME", "TYPE", "EXPR", "CALLEE", "s", "d"} {
		for _, other := range []string{"N", "T", "C", "A", "B", "L", "NAME", "TYPE", "EXPR", "CALLEE"} {
			e := variable(other)
			head(t, declare(s, 1, e), "var "+s+" int = "+other+";")
			head(t, set(s, e), s+" = "+other+";")
			head(t, store(s, e, variable(s)), s+"["+other+"] = "+s+";")
			head(t, create(s, e), s+" = new "+other+";")
			head(t, call(s, other, e, variable(s)), s+" = "+other+"("+other+", "+s+");")
			head(t, call("", other, variable(s), e), other+"("+s+", "+other+");")
			head(t, branch(index(s, e), nil, nil), "if "+s+"["+other+"]")
			printed(t, function(s, params(api.Param{Name: other, Type: 2}), 3, read(other)), "func "+s+"("+other+" bool) array {", ">read "+other+";", "}")
		}
	}
}

// P8.1: the head does not have the blocks in it, and does not depend on them, nor on numbers.
func TestHeadsWithBlocks(t *testing.T) {
	for _, l := range [][]api.Stmt{nil, {}, block(read("x")), block(read("x"), show(a)), block(loop(a, loop(b, read("x"))))} {
		for _, other := range [][]api.Stmt{nil, {}, block(read("x")), block(branch(a, block(give()), nil), give())} {
			for _, no := range []int{0, 1, -1, 200, math.MinInt, math.MaxInt} {
				s := branch(a, l, other)
				s.No = no
				head(t, s, "if a")
				s = loop(a, l...)
				s.No = no
				head(t, s, "while a")
			}
		}
	}
	for _, no := range []int{1, -1, 200, math.MinInt, math.MaxInt} {
		for s, want := range map[string]api.Stmt{"read x;": read("x"), "f();": call("", "f"), "return;": give(), "x = a;": set("x", a)} {
			want.No = no
			head(t, want, s)
		}
	}
}

// P8.2 and P8.3: the first line of a function, with no parameters, one and several, with a result and without one.
func TestFirstLines(t *testing.T) {
	p := []api.Param{{Name: "n", Type: 1}, {Name: "b", Type: 2}, {Name: long, Type: 3}, {Name: "A", Type: 1}, {Name: "n", Type: 2}, {Name: "x", Type: 3}, {Name: "y", Type: 1}, {Name: "z", Type: 2}}
	several := []string{
		"", "n int", "n int, b bool", "n int, b bool, " + long + " array", "n int, b bool, " + long + " array, A int", "n int, b bool, " + long + " array, A int, n bool",
		"n int, b bool, " + long + " array, A int, n bool, x array", "n int, b bool, " + long + " array, A int, n bool, x array, y int", "n int, b bool, " + long + " array, A int, n bool, x array, y int, z bool",
	}
	for n, s := range several {
		for result, word := range []string{"", "int ", "bool ", "array "} {
			for _, name := range []string{"f", "main", long} {
				f := function(name, p[:n], result)
				first := "func " + name + "(" + s + ") " + word + "{"
				printed(t, f, first, "}")
				listed(t, f, "    "+first, "    }")
				f = function(name, p[:n], result, read("x"))
				printed(t, f, first, ">read x;", "}")
				listed(t, f, "    "+first, "  0 >read x;", "    }")
			}
		}
	}
}

// P8.2 and P8.3: the lines of statements with blocks: without statements, with some, with an else and without one.
func TestBlocks(t *testing.T) {
	printed(t, function("f", nil, 0, branch(a, nil, nil)), "func f() {", ">if a {", ">}", "}")
	printed(t, function("f", nil, 0, branch(a, []api.Stmt{}, []api.Stmt{})), "func f() {", ">if a {", ">}", "}")
	printed(t, function("f", nil, 0, branch(a, block(read("x")), nil)), "func f() {", ">if a {", ">>read x;", ">}", "}")
	printed(t, function("f", nil, 0, branch(a, nil, block(read("x")))), "func f() {", ">if a {", ">} else {", ">>read x;", ">}", "}")
	printed(t, function("f", nil, 0, branch(a, block(read("x"), read("y")), block(give(), give(a)))), "func f() {", ">if a {", ">>read x;", ">>read y;", ">} else {", ">>return;", ">>return a;", ">}", "}")
	printed(t, function("f", nil, 0, loop(a)), "func f() {", ">while a {", ">}", "}")
	printed(t, function("f", nil, 0, loop(a, read("x"), show(plus(a, b)))), "func f() {", ">while a {", ">>read x;", ">>print a + b;", ">}", "}")
	f := function("f", nil, 0,
		declare("x", 1),
		branch(a,
			block(loop(b), branch(b, nil, block(branch(c, block(read("x")), nil), give()))),
			block(branch(c, nil, nil), set("x", a)),
		),
		loop(a, loop(b, loop(c), read("x")), read("y")),
		call("", "f"),
	)
	printed(t, f,
		"func f() {",
		">var x int;",
		">if a {",
		">>while b {",
		">>}",
		">>if b {",
		">>} else {",
		">>>if c {",
		">>>>read x;",
		">>>}",
		">>>return;",
		">>}",
		">} else {",
		">>if c {",
		">>}",
		">>x = a;",
		">}",
		">while a {",
		">>while b {",
		">>>while c {",
		">>>}",
		">>>read x;",
		">>}",
		">>read y;",
		">}",
		">f();",
		"}",
	)
	listed(t, f,
		"    func f() {",
		"  0 >var x int;",
		"  1 >if a {",
		"  2 >>while b {",
		"    >>}",
		"  3 >>if b {",
		"    >>} else {",
		"  4 >>>if c {",
		"  5 >>>>read x;",
		"    >>>}",
		"  6 >>>return;",
		"    >>}",
		"    >} else {",
		"  7 >>if c {",
		"    >>}",
		"  8 >>x = a;",
		"    >}",
		"  9 >while a {",
		" 10 >>while b {",
		" 11 >>>while c {",
		"    >>>}",
		" 12 >>>read x;",
		"    >>}",
		" 13 >>read y;",
		"    >}",
		" 14 >f();",
		"    }",
	)
}

// P8.3: programs with no function, with one and with several, with an empty line between two of them.
func TestPrograms(t *testing.T) {
	for _, x := range []struct {
		p    api.Program
		want string
	}{
		{program(), ""},
		{api.Program{Funcs: []api.Func{}}, ""},
		{program(function("f", nil, 0)), "func f() {\n}\n"},
		{program(function("f", nil, 0), function("g", nil, 1)), "func f() {\n}\n\nfunc g() int {\n}\n"},
		{program(function("f", nil, 0), function("f", nil, 0), function("f", nil, 0)), "func f() {\n}\n\nfunc f() {\n}\n\nfunc f() {\n}\n"},
		{program(branching(), function("main", nil, 0, loop(a, read("x")))), "func f(n int) int {\n\tif n < 1 {\n\t\treturn 0;\n\t} else {\n\t\tprint n;\n\t}\n}\n\nfunc main() {\n\twhile a {\n\t\tread x;\n\t}\n}\n"},
	} {
		got, e := printer.Program(x.p)
		answer(t, x.p, got, e, x.want, api.OK)
	}
}
