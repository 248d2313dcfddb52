package printer_test

import (
	"fmt"
	"math/rand/v2"
	"slices"
	"strings"
	"testing"

	"rewind/api"
	"rewind/parse"
	"rewind/printer"
	"rewind/shape"
)

// sameExprs reports whether expressions are equal in all fields.
func sameExprs(a, b []api.Expr) bool {
	return slices.EqualFunc(a, b, func(a, b api.Expr) bool {
		return a.Kind == b.Kind && a.Op == b.Op && a.Num == b.Num && a.Name == b.Name && sameExprs(a.Args, b.Args)
	})
}

// sameHeads reports whether two statements are equal apart from their numbers and blocks.
func sameHeads(a, b api.Stmt) bool {
	return a.Kind == b.Kind && a.Name == b.Name && a.Type == b.Type && a.Callee == b.Callee && sameExprs(a.Args, b.Args)
}

// sameStmts reports whether statements are equal in all fields, numbers as well.
func sameStmts(a, b []api.Stmt) bool {
	return slices.EqualFunc(a, b, func(a, b api.Stmt) bool {
		return a.No == b.No && sameHeads(a, b) && sameStmts(a.Body, b.Body) && sameStmts(a.Else, b.Else)
	})
}

// sameFuncs reports whether functions are equal in all fields, numbers as well.
func sameFuncs(a, b []api.Func) bool {
	return slices.EqualFunc(a, b, func(a, b api.Func) bool {
		return a.Name == b.Name && a.Result == b.Result && a.Count == b.Count && slices.Equal(a.Params, b.Params) && sameStmts(a.Body, b.Body)
	})
}

// textOf returns the text of a program.
func textOf(t *testing.T, p api.Program) string {
	t.Helper()
	s, e := printer.Program(p)
	if e != api.OK {
		t.Errorf("%+v has no text: %d", p, e)
	}
	return s
}

// back reports an error if the text of a program is not parsed as this program, and reports whether it is not too long for it.
func back(t *testing.T, p api.Program) bool {
	t.Helper()
	s := textOf(t, p)
	q, at, e := parse.Program(s)
	if len(s) > api.MaxText {
		if e != api.ErrLong {
			t.Errorf("%d bytes are parsed: %d", len(s), e)
		}
		return false
	}
	if !sameFuncs(p.Funcs, q.Funcs) || e != api.OK {
		t.Errorf("%+v is printed as %q, and this is parsed as %+v, %v, %d", p, s, q, at, e)
	}
	if again := textOf(t, q); again != s {
		t.Errorf("%q is parsed, and printed as %q", s, again)
	}
	return true
}

// P8.4: the text of a program is parsed as this program.
func TestBack(t *testing.T) {
	short, tooLong := 0, 0
	for seed := range uint64(1500) {
		r := random(seed, 10)
		if back(t, randomProgram(r, 1+r.IntN(20))) {
			short++
		} else {
			tooLong++
		}
	}
	if short < 500 || tooLong < 50 {
		t.Errorf("%d texts are short, and %d are too long", short, tooLong)
	}
}

// P8.4: programs at the limits of depth, of nesting, and of numbers of all sorts.
func TestBackAtTheLimits(t *testing.T) {
	deep := func(deeper ...func(e api.Expr) api.Expr) api.Expr {
		e := a
		for i := range 19 {
			e = deeper[i%len(deeper)](e)
		}
		return e
	}
	left := func(e api.Expr) api.Expr { return binary(2, e, b) }
	right := func(e api.Expr) api.Expr { return binary(2, b, e) }
	at := func(e api.Expr) api.Expr { return index("x", e) }
	for _, e := range []api.Expr{deep(minus), deep(not), deep(left), deep(right), deep(at), deep(minus, not), deep(minus, left), deep(minus, right), deep(at, minus), deep(left, at, right, not), num(1<<63 - 1), num(0)} {
		for _, s := range around(e) {
			back(t, program(function("f", nil, 0, s)))
		}
	}
	s, other := read("x"), read("x")
	for range 19 {
		s, other = loop(a, s), branch(a, block(read("x")), block(other))
	}
	back(t, program(function("f", nil, 0, s), function("f", nil, 0, other)))
	back(t, program(function("f", nil, 0, slices.Repeat(block(read("x")), 200)...)))
	back(t, program(slices.Repeat([]api.Func{function(long, slices.Repeat(params(api.Param{Name: "n", Type: 3}), 8), 3, call(long, long, slices.Repeat(exprs(a), 8)...))}, 20)...))
	back(t, program())
}

// edited returns a program with a small change somewhere, whose shape is possibly not right.
func edited(r *rand.Rand, p api.Program) api.Program {
	p = shape.Number(p)
	if len(p.Funcs) == 0 {
		return p
	}
	f := &p.Funcs[r.IntN(len(p.Funcs))]
	switch r.IntN(6) {
	case 0:
		f.Name = randomName(r)
	case 1:
		f.Result = r.IntN(4)
	case 2:
		f.Params = append(f.Params, api.Param{Name: "x", Type: 1})
	case 3:
		f.Body = append(f.Body, randomStmt(r, 1))
	default:
		editBlock(r, f.Body)
	}
	return shape.Number(p)
}

// editBlock makes a small change in statements.
func editBlock(r *rand.Rand, l []api.Stmt) {
	if len(l) == 0 {
		return
	}
	s := &l[r.IntN(len(l))]
	switch r.IntN(7) {
	case 0:
		s.Name = randomName(r)
	case 1:
		s.Body, s.Else = s.Else, s.Body
	case 2:
		*s = randomStmt(r, 1)
	case 3:
		s.Callee = randomName(r)
	case 4:
		s.Kind = 1 + r.IntN(10)
	case 5:
		editExprs(r, s.Args)
	default:
		editBlock(r, [][]api.Stmt{s.Body, s.Else}[r.IntN(2)])
	}
}

// editExprs makes a small change in expressions.
func editExprs(r *rand.Rand, l []api.Expr) {
	if len(l) == 0 {
		return
	}
	e := &l[r.IntN(len(l))]
	switch r.IntN(6) {
	case 0:
		e.Num++
	case 1:
		e.Op = 1 + r.IntN(15)
	case 2:
		slices.Reverse(e.Args)
	case 3:
		e.Kind = 1 + r.IntN(7)
	case 4:
		*e = randomExpr(r, 2)
	default:
		editExprs(r, e.Args)
	}
}

// P8.4: equal programs have the same text, and different ones different texts, even if they differ in one place only.
func TestDifferentTexts(t *testing.T) {
	equal, different := 0, 0
	for seed := range uint64(6000) {
		r := random(seed, 11)
		p := program(randomFunc(r), randomFunc(r))
		q := edited(r, p)
		if len(q.Funcs) == 0 {
			continue
		}
		same := shape.Same(p, q)
		if (textOf(t, p) == textOf(t, q)) != same {
			t.Errorf("%+v and %+v: %v", p, q, same)
		}
		if same {
			equal++
		} else {
			different++
		}
	}
	if equal < 500 || different < 1000 {
		t.Errorf("%d programs were equal, and %d different", equal, different)
	}
	seen := map[string]api.Program{}
	for seed := range uint64(2000) {
		p := randomProgram(random(seed, 12), 2)
		s := textOf(t, p)
		if q, ok := seen[s]; ok && !shape.Same(p, q) {
			t.Errorf("%+v and %+v have the same text", p, q)
		}
		seen[s] = p
	}
}

// P8.5: what is parsed, and printed, and parsed again, is the same program, and has the same text.
func TestParsedAndPrinted(t *testing.T) {
	for _, x := range [][2]string{
		{"", ""},
		{"// nothing", ""},
		{"func f(){}func g(){}", "func f() {\n}\n\nfunc g() {\n}\n"},
		{"func f ( a int,b bool )array{return ( ( a ) ) ;}", "func f(a int, b bool) array {\n\treturn a;\n}\n"},
		{"func f() { x = a - b - c * d; // a comment\n\n\n y = a + b < c && !d || e; }", "func f() {\n\tx = (a - b) - (c * d);\n\ty = (((a + b) < c) && (!d)) || e;\n}\n"},
		{"func f() { if a { } else { } if a { } else { read x; } while a { } }", "func f() {\n\tif a {\n\t}\n\tif a {\n\t} else {\n\t\tread x;\n\t}\n\twhile a {\n\t}\n}\n"},
		{"func f() { var x int=1;var y bool;a[(1)]=-(2);a=new(3);f(1,(2));x=f();return;}", "func f() {\n\tvar x int = 1;\n\tvar y bool;\n\ta[1] = -2;\n\ta = new 3;\n\tf(1, 2);\n\tx = f();\n\treturn;\n}\n"},
		{"func f() { x = a[b[len(c)]] + - - 5; }", "func f() {\n\tx = a[b[len(c)]] + (-(-5));\n}\n"},
	} {
		p, _, e := parse.Program(x[0])
		if s := textOf(t, p); s != x[1] || e != api.OK {
			t.Errorf("%q is printed as %q; want %q", x[0], s, x[1])
		}
		back(t, p)
	}
	for seed := range uint64(1000) {
		r := random(seed, 13)
		p := program(randomFunc(r), randomFunc(r))
		// The same tokens with white space of other sorts, and with an operand's parentheses more.
		s := textOf(t, p)
		s = strings.NewReplacer("\n", []string{" ", "\r\n", " // a\n"}[r.IntN(3)], "\t", []string{"", "  ", "\n"}[r.IntN(3)], "[", "[(", "]", ")]").Replace(s)
		q, _, e := parse.Program(s)
		if e == api.OK {
			back(t, q)
			if !sameFuncs(p.Funcs, q.Funcs) {
				t.Errorf("%q is %+v", s, q)
			}
		}
	}
}

// smallStatements returns statements of all kinds with small parts; some of them have blocks.
func smallStatements() []api.Stmt {
	l := []api.Stmt{give(), call("", "x"), call("", "y"), call("x", "x"), call("x", "y"), call("y", "x")}
	for _, x := range []string{"x", "y"} {
		l = append(l, read(x))
		for typ := 1; typ <= 3; typ++ {
			l = append(l, declare(x, typ))
		}
	}
	x, y := variable("x"), variable("y")
	for _, e := range []api.Expr{x, y, num(0), num(1), truth(0), truth(1), length("x"), length("y"), index("x", y), index("y", x), minus(x), not(x), minus(minus(x)), plus(x, y), plus(y, x), times(x, y), plus(plus(x, y), x), plus(x, plus(y, x)), minus(plus(x, y)), plus(minus(x), y)} {
		l = append(l, around(e)...)
		l = append(l, declare("y", 1, e), declare("x", 2, e), set("y", e), create("y", e), store("y", e, e), call("y", "x", e), call("x", "y", e), call("", "x", e), call("", "x", e, e), call("", "x", e, x), loop(e, read("x")), branch(e, nil, block(give())))
	}
	return l
}

// P8.6: two statements of the same kind have the same head exactly if they are equal apart from their numbers and blocks, and two of different kinds never have.
func TestHeadsAreDifferent(t *testing.T) {
	l := smallStatements()
	for seed := range uint64(300) {
		l = append(l, randomStmt(random(seed, 14), 2))
	}
	var heads []string
	for i := range l {
		l[i].No = i % 7
		s, e := printer.Head(l[i])
		if s == "" || e != api.OK {
			t.Errorf("%+v has no head: %d", l[i], e)
		}
		heads = append(heads, s)
	}
	equal := 0
	for i, a := range l {
		for k, b := range l {
			if same := sameHeads(a, b); (heads[i] == heads[k]) != same {
				t.Errorf("%+v and %+v have the heads %q and %q", a, b, heads[i], heads[k])
			} else if same && i != k {
				equal++
			}
		}
	}
	if equal < 100 {
		t.Errorf("only %d pairs of statements have equal heads", equal)
	}
}

// P8.7: without its first four characters each line of a list is that of the text, and the numbers in it are 0, 1, 2 and so on.
func TestLinesOfLists(t *testing.T) {
	most := 0
	for seed := range uint64(1000) {
		f := randomFunc(random(seed, 15))
		all, _ := printer.Func(f)
		list, e := printer.List(f)
		var rest []string
		no := 0
		for _, line := range strings.SplitAfter(list, "\n") {
			if line == "" {
				continue
			}
			rest = append(rest, line[4:])
			if line[:4] == "    " {
				continue
			}
			if want := fmt.Sprintf("%3d ", no); line[:4] != want {
				t.Errorf("%q stands ahead of a line, not %q", line[:4], want)
			}
			no++
		}
		if strings.Join(rest, "") != all || no != f.Count || e != api.OK {
			t.Errorf("%q and %q, %d", list, all, e)
		}
		most = max(most, no)
	}
	if most < 100 {
		t.Errorf("the longest list has %d numbers", most)
	}
}

// answers returns what the package returns for a program and all its parts.
func answers(p api.Program) string {
	s := fmt.Sprint(printer.Program(p))
	for _, f := range p.Funcs {
		s += fmt.Sprint(printer.Func(f)) + fmt.Sprint(printer.List(f))
		for _, x := range f.Body {
			s += fmt.Sprint(printer.Head(x))
			for _, e := range x.Args {
				s += fmt.Sprint(printer.Expr(e))
			}
		}
	}
	return s
}

// R3, R4 and R8: arguments stay as they are, what stands behind them is not read, a nil slice is the same as an empty one, and equal calls return equal results.
func TestArgumentsStay(t *testing.T) {
	for seed := range uint64(300) {
		r := random(seed, 16)
		p := randomProgram(r, 5)
		before := fmt.Sprintf("%#v", p)
		first := answers(p)
		if again := answers(p); again != first || fmt.Sprintf("%#v", p) != before {
			t.Errorf("%+v: %s, and then %s", before, first, again)
		}
		for i, f := range p.Funcs {
			p.Funcs[i].Body = append(slices.Clone(f.Body), read("behind"))[:len(f.Body)]
			p.Funcs[i].Params = append(slices.Clone(f.Params), api.Param{Name: "behind", Type: 1})[:len(f.Params)]
		}
		if again := answers(p); again != first {
			t.Errorf("%s: %s, and then %s", before, first, again)
		}
	}
	e := api.Expr{Kind: 3, Name: "a", Args: []api.Expr{}}
	s := api.Stmt{Kind: 9, Args: exprs(e), Body: []api.Stmt{}, Else: []api.Stmt{}}
	printed(t, api.Func{Name: "f", Params: []api.Param{}, Body: block(s), Count: 1}, "func f() {", ">if a {", ">}", "}")
}
