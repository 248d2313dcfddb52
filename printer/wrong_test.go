package printer_test

import (
	"math"
	"slices"
	"strings"
	"testing"

	"rewind/api"
	"rewind/printer"
)

// noNames are strings that are no names.
var noNames = append(strings.Fields("1a _a a-b a; len( func var if else while return print read new len int bool array true false "+long+"q"), " ", "a b", "a\n", "\x00", "\u00e4", "a\xff")

// chain returns an expression of a depth.
func chain(depth int) api.Expr {
	e := a
	for i := range depth - 1 {
		e = []func() api.Expr{func() api.Expr { return minus(e) }, func() api.Expr { return plus(e, b) }, func() api.Expr { return index("x", e) }, func() api.Expr { return times(c, e) }}[i%4]()
	}
	return e
}

// changed returns all that change makes of copies of a thing.
func changed[T any](x T, change ...func(x *T)) []T {
	var l []T
	for _, f := range change {
		y := x
		f(&y)
		l = append(l, y)
	}
	return l
}

// Changes of one field of an expression:

func withKind(n int) func(e *api.Expr)     { return func(e *api.Expr) { e.Kind = n } }
func withOp(n int) func(e *api.Expr)       { return func(e *api.Expr) { e.Op = n } }
func withNum(n int64) func(e *api.Expr)    { return func(e *api.Expr) { e.Num = n } }
func withName(s string) func(e *api.Expr)  { return func(e *api.Expr) { e.Name = s } }
func with(l ...api.Expr) func(e *api.Expr) { return func(e *api.Expr) { e.Args = l } }

// wrongExprs returns expressions of all kinds with one field that is wrong, or that are nested too deeply.
func wrongExprs() []api.Expr {
	l := slices.Concat(
		changed(num(0), withNum(-1), withNum(math.MinInt64), withOp(1), withOp(14), withName("x"), with(a)),
		changed(truth(1), withNum(-1), withNum(2), withNum(math.MaxInt64), withNum(1<<32), withOp(1), withName("x"), with(a)),
		changed(a, withName(""), withNum(1), withNum(-1), withOp(1), with(a)),
		changed(length("x"), withName(""), withNum(1), withOp(1), with(a)),
		changed(minus(a), withOp(0), withOp(1), withOp(13), withOp(16), withOp(-1), withNum(1), withName("x"), with(), with(a, b)),
		changed(plus(a, b), withOp(0), withOp(-1), withOp(14), withOp(15), withOp(16), withOp(1<<32+1), withNum(1), withName("x"), with(), with(a), with(a, b, c)),
		changed(index("x", a), withName(""), withOp(1), withOp(14), withNum(1), with(), with(a, b)),
		[]api.Expr{{}, chain(21), chain(22), chain(100)},
	)
	for _, s := range noNames {
		l = append(l, changed(a, withName(s))...)
		l = append(l, changed(length("x"), withName(s))...)
		l = append(l, changed(index("x", a), withName(s))...)
	}
	for _, e := range []api.Expr{num(1), a, minus(a), plus(a, b), index("x", a)} {
		for _, kind := range []int{-1, 0, 8, 9, 1<<32 + 1, math.MinInt, math.MaxInt} {
			l = append(l, changed(e, withKind(kind))...)
		}
	}
	return l
}

// inside returns expressions with another one somewhere in them.
func inside(e api.Expr) []api.Expr {
	return []api.Expr{minus(e), not(e), plus(e, a), plus(a, e), index("x", e), times(a, index("x", minus(e)))}
}

// wrongHeads returns statements of all kinds with one field that is wrong; blocks are not looked at.
func wrongHeads() []api.Stmt {
	name := func(s string) func(*api.Stmt) { return func(x *api.Stmt) { x.Name = s } }
	typ := func(n int) func(*api.Stmt) { return func(x *api.Stmt) { x.Type = n } }
	callee := func(s string) func(*api.Stmt) { return func(x *api.Stmt) { x.Callee = s } }
	kind := func(n int) func(*api.Stmt) { return func(x *api.Stmt) { x.Kind = n } }
	args := func(l ...api.Expr) func(*api.Stmt) { return func(x *api.Stmt) { x.Args = l } }
	body := func(x *api.Stmt) { x.Body = block(give()) }
	other := func(x *api.Stmt) { x.Else = block(give()) }
	nine := slices.Repeat(exprs(a), 9)
	l := slices.Concat(
		changed(declare("x", 1), name(""), typ(0), typ(4), typ(-1), typ(1<<32+1), callee("f"), args(a, b), body, other),
		changed(declare("x", 1, a), name(""), typ(0), callee("f"), args(a, b), body, other),
		changed(set("x", a), name(""), typ(1), callee("f"), args(), args(a, b), body, other),
		changed(store("x", a, b), name(""), typ(1), callee("f"), args(), args(a), args(a, b, c), body, other),
		changed(create("x", a), name(""), typ(3), callee("f"), args(), args(a, b), body, other),
		changed(read("x"), name(""), typ(1), callee("f"), args(a), body, other),
		changed(show(a), name("x"), typ(1), callee("f"), args(), args(a, b), body, other),
		changed(call("", "f", a), callee(""), typ(1), args(nine...), body, other),
		changed(call("x", "f"), callee(""), typ(1), args(nine...), body, other),
		changed(give(), name("x"), typ(1), callee("f"), args(a, b), body, other),
		changed(give(a), name("x"), typ(1), callee("f"), args(a, b), body, other),
		changed(branch(a, nil, nil), name("x"), typ(1), callee("f"), args(), args(a, b)),
		changed(loop(a), name("x"), typ(1), callee("f"), args(), args(a, b), other),
		[]api.Stmt{{}, {Name: "x"}},
	)
	for _, s := range noNames {
		l = append(l, declare(s, 1), set(s, a), store(s, a, b), create(s, a), read(s), call("", s), call(s, "f"), call("x", s))
	}
	for _, n := range []int{-1, 0, 11, 1<<32 + 5, math.MinInt, math.MaxInt} {
		l = slices.Concat(l, changed(read("x"), kind(n)), changed(give(), kind(n)), changed(loop(a), kind(n)))
	}
	return l
}

// around returns statements that have an expression among others.
func around(e api.Expr) []api.Stmt {
	return []api.Stmt{
		declare("x", 1, e), set("x", e), store("x", e, a), store("x", a, e), create("x", e), show(e), call("", "f", e), call("x", "f", a, b, e), give(e), branch(e, nil, nil), loop(e), branch(e, block(read("x")), block(read("x"))),
	}
}

// nested returns statements that have another one in a block.
func nested(s api.Stmt) []api.Stmt {
	return []api.Stmt{loop(a, s), loop(a, read("x"), s, read("y")), branch(a, block(s), nil), branch(a, nil, block(s)), branch(a, block(read("x")), block(read("x"), loop(a, s)))}
}

// noHead reports an error if a statement has a head, or if a function or a program with it has a text.
func noHead(t *testing.T, s api.Stmt) {
	t.Helper()
	got, e := printer.Head(s)
	answer(t, s, got, e, "", api.ErrArg)
	noText(t, function("f", nil, 0, s))
	noText(t, function("f", nil, 0, read("x"), s))
}

// noText reports an error if a function has a text or a list, or if a program with it has a text.
func noText(t *testing.T, f api.Func) {
	t.Helper()
	got, e := printer.Func(f)
	answer(t, f, got, e, "", api.ErrArg)
	noProgram(t, f)
}

// noProgram reports an error if a function has a list, or if a program with it has a text.
func noProgram(t *testing.T, f api.Func) {
	t.Helper()
	got, e := printer.List(f)
	answer(t, f, got, e, "", api.ErrArg)
	g := function("g", nil, 0)
	for _, p := range []api.Program{program(f), program(f, g), program(g, f), program(g, f, g)} {
		got, e := printer.Program(p)
		answer(t, p, got, e, "", api.ErrArg)
	}
}

// P8.1 to P8.3: expressions that do not have the right shape, alone, in others, and in statements.
func TestWrongExpressions(t *testing.T) {
	for _, e := range wrongExprs() {
		for _, x := range append(inside(e), e) {
			got, err := printer.Expr(x)
			answer(t, x, got, err, "", api.ErrArg)
		}
		for _, s := range around(e) {
			noHead(t, s)
		}
	}
}

// P8.1 to P8.3: statements that do not have the right shape, alone, and in blocks of others.
func TestWrongStatements(t *testing.T) {
	for _, s := range wrongHeads() {
		noHead(t, s)
		for _, x := range nested(s) {
			noHead(t, x)
		}
	}
}

// P8.2 and P8.3: functions that do not have the right shape.
func TestWrongFunctions(t *testing.T) {
	good := function("f", params(api.Param{Name: "n", Type: 1}), 1, read("x"), loop(a, read("y")))
	printed(t, good, "func f(n int) int {", ">read x;", ">while a {", ">>read y;", ">}", "}")
	wrong := func(l ...api.Param) func(f *api.Func) { return func(f *api.Func) { f.Params = l } }
	l := changed(good,
		func(f *api.Func) { f.Name = "" },
		func(f *api.Func) { f.Result = -1 },
		func(f *api.Func) { f.Result = 4 },
		func(f *api.Func) { f.Result = 1<<32 + 1 },
		wrong(slices.Repeat(good.Params, 9)...),
		wrong(api.Param{Type: 1}),
		wrong(api.Param{Name: "n"}),
		wrong(api.Param{Name: "n", Type: 4}),
		wrong(api.Param{Name: "n", Type: -1}),
		wrong(api.Param{Name: "n", Type: math.MinInt}),
		wrong(api.Param{Name: "n", Type: 1}, api.Param{Name: "m"}),
		wrong(api.Param{}),
	)
	for _, s := range noNames {
		l = append(l, changed(good, func(f *api.Func) { f.Name = s }, wrong(api.Param{Name: s, Type: 1}))...)
	}
	for _, f := range l {
		noText(t, f)
	}
}

// P8.1 to P8.3: numbers that are wrong matter to programs and lists alone.
func TestWrongNumbers(t *testing.T) {
	build := func() api.Func {
		return function("f", nil, 0, read("x"), branch(a, block(read("y")), block(read("z"))), read("w"))
	}
	lines := []string{"func f() {", ">read x;", ">if a {", ">>read y;", ">} else {", ">>read z;", ">}", ">read w;", "}"}
	printed(t, build(), lines...)
	want := text(lines...)
	var wrong []api.Func
	for _, n := range []int{math.MinInt, -1, 0, 4, 6, 200, 201, math.MaxInt} {
		f := build()
		f.Count = n
		wrong = append(wrong, f)
	}
	for at := range 5 {
		for _, n := range []int{math.MinInt, -5, -1, 0, 1, 2, 3, 4, 5, 200, 1000, 1 << 32, math.MaxInt} {
			f := build()
			if n != at {
				*[]*int{&f.Body[0].No, &f.Body[1].No, &f.Body[1].Body[0].No, &f.Body[1].Else[0].No, &f.Body[2].No}[at] = n
				wrong = append(wrong, f)
			}
		}
	}
	for _, f := range wrong {
		got, e := printer.Func(f)
		answer(t, f, got, e, want, api.OK)
		head(t, f.Body[0], "read x;")
		head(t, f.Body[1], "if a")
		noProgram(t, f)
	}
	f := build()
	numbered(f.Body, 1)
	noProgram(t, f)
}
