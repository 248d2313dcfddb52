package printer_test

import (
	"fmt"
	"slices"
	"strings"
	"testing"

	"rewind/api"
	"rewind/parse"
	"rewind/printer"
)

// P8.1: expressions to the depth 20 have a text, wherever they are deep; deeper ones do not.
func TestDepthOfExpressions(t *testing.T) {
	n := strings.Repeat
	for _, x := range []struct {
		deeper func(e api.Expr) api.Expr
		want   func(depth int) string // from 2 on
	}{
		{minus, func(d int) string { return n("-(", d-2) + "-a" + n(")", d-2) }},
		{not, func(d int) string { return n("!(", d-2) + "!a" + n(")", d-2) }},
		{func(e api.Expr) api.Expr { return plus(e, b) }, func(d int) string { return n("(", d-2) + "a + b" + n(") + b", d-2) }},
		{func(e api.Expr) api.Expr { return plus(b, e) }, func(d int) string { return n("b + (", d-2) + "b + a" + n(")", d-2) }},
		{func(e api.Expr) api.Expr { return index("x", e) }, func(d int) string { return n("x[", d-1) + "a" + n("]", d-1) }},
		{func(e api.Expr) api.Expr { return index("x", minus(e)) }, func(d int) string { return n("x[-", d-1) + "a" + n("]", d-1) }},
	} {
		e := a
		for depth := 2; depth <= 30; depth++ {
			e = x.deeper(e)
			// The last row becomes deeper by 2.
			if want := x.want(depth); strings.HasPrefix(want, "x[-") && depth > 10 || depth > 20 {
				got, err := printer.Expr(e)
				answer(t, want, got, err, "", api.ErrArg)
				noHead(t, store("y", a, e))
			} else {
				expression(t, e, want)
				head(t, store("y", e, e), "y["+want+"] = "+want+";")
				printed(t, function("f", nil, 0, give(e)), "func f() {", ">return "+want+";", "}")
			}
		}
	}
}

// P8.1 to P8.3: blocks that are nested up to a height of 20.
func TestBlocksToTheLimit(t *testing.T) {
	for height := 1; height <= 30; height++ {
		loops, branches := read("x"), read("x")
		lines, others := []string{">read x;"}, []string{">read x;"}
		list, otherList := []string{fmt.Sprintf("%3d >read x;", height-1)}, []string{fmt.Sprintf("%3d >read x;", height-1)}
		deeper := func(l []string) []string {
			for i, line := range l {
				l[i] = strings.Replace(line, ">", ">>", 1)
			}
			return l
		}
		for i := range height - 1 {
			loops, branches = loop(a, loops), branch(a, nil, block(branches))
			lines = slices.Concat([]string{">while a {"}, deeper(lines), []string{">}"})
			others = slices.Concat([]string{">if a {", ">} else {"}, deeper(others), []string{">}"})
			no := fmt.Sprintf("%3d ", height-2-i)
			list = slices.Concat([]string{no + ">while a {"}, deeper(list), []string{"    >}"})
			otherList = slices.Concat([]string{no + ">if a {", "    >} else {"}, deeper(otherList), []string{"    >}"})
		}
		if height > 20 {
			noHead(t, loops)
			noHead(t, branches)
			continue
		}
		surround := func(first string, l []string, last string) []string {
			return slices.Concat([]string{first}, l, []string{last})
		}
		printed(t, function("f", nil, 0, loops), surround("func f() {", lines, "}")...)
		printed(t, function("f", nil, 0, branches), surround("func f() {", others, "}")...)
		listed(t, function("f", nil, 0, loops), surround("    func f() {", list, "    }")...)
		listed(t, function("f", nil, 0, branches), surround("    func f() {", otherList, "    }")...)
	}
}

// P8.2 and P8.3: an if or while without statements in its blocks is printed as others are, where blocks are nested 20 deep, too. Its block is the 21st, which P6.1 does not let a text have: this program, whose shape is right, is not parsed.
func TestEmptyBlocksAtTheLimit(t *testing.T) {
	for _, last := range []api.Stmt{loop(b), branch(b, nil, nil)} {
		for height := 19; height <= 21; height++ {
			s := last
			for range height - 1 {
				s = loop(a, s)
			}
			if height > 20 {
				noHead(t, s)
				continue
			}
			f := function("f", nil, 0, s)
			want := definedFunc(f)
			got, e := printer.Program(program(f))
			answer(t, f, got, e, want, api.OK)
			_, at, e := parse.Program(got)
			if height == 19 && e != api.OK || height == 20 && (at.Line != 21 || e != api.ErrDeep) {
				t.Errorf("the text of %d blocks is parsed with %v, %d", height, at, e)
			}
		}
	}
}

// P8.3: a list with numbers of one, two and three digits, up to the last one.
func TestNumbersOfLists(t *testing.T) {
	for _, n := range []int{0, 1, 2, 9, 10, 11, 12, 99, 100, 101, 102, 199, 200, 201, 202, 1000} {
		f := function("f", nil, 0, slices.Repeat(block(read("x")), n)...)
		if n > 200 {
			noText(t, f)
			continue
		}
		want := "    func f() {\n"
		for no := range n {
			want += "  "[:3-len(fmt.Sprint(no))] + fmt.Sprint(no) + " \tread x;\n"
		}
		got, e := printer.List(f)
		answer(t, f, got, e, want+"    }\n", api.OK)
	}
	f := function("f", nil, 0, slices.Concat(slices.Repeat(block(read("x")), 98), block(branch(a, block(read("y")), block(read("z")))), slices.Repeat(block(read("x")), 99))...)
	got, e := printer.List(f)
	answer(t, f, got, e, definedFuncList(f), api.OK)
	if !strings.Contains(got, "\n 97 \tread x;\n 98 \tif a {\n 99 \t\tread y;\n    \t} else {\n100 \t\tread z;\n    \t}\n101 \tread x;\n") {
		t.Errorf("%q", got)
	}
}

// P8.3: programs of up to 20 functions.
func TestManyFunctions(t *testing.T) {
	for n := range 25 {
		p := program(slices.Repeat([]api.Func{function("f", nil, 0)}, n)...)
		want, wanted := strings.TrimSuffix(strings.Repeat("func f() {\n}\n\n", n), "\n"), api.OK
		if n == 0 {
			want = ""
		}
		if n > 20 {
			want, wanted = "", api.ErrArg
		}
		got, e := printer.Program(p)
		answer(t, p, got, e, want, wanted)
	}
}

// P8.3 and P8.4: a text that has as many bytes as a text may have is parsed as its program, and one that has more of them is there, but is not parsed.
func TestLongTexts(t *testing.T) {
	for n := range 30 {
		// Each of the first statements has 61 bytes, each of the next ones 11, and the last one has 8 + n; 16 are left.
		l := slices.Repeat(block(set("x", plus(num(1e15), plus(num(1e15), num(1e13))))), 133)
		l = append(l, slices.Repeat(block(give(variable("x"))), 4)...)
		l = append(l, set(strings.Repeat("y", 1+n/2), variable(strings.Repeat("z", 1+n-n/2))))
		p := program(function("main", nil, 0, l...))
		got, e := printer.Program(p)
		answer(t, n, got, e, definedFunc(p.Funcs[0]), api.OK)
		if len(got) != 8181+n {
			t.Errorf("%d bytes, not %d", len(got), 8181+n)
		}
		q, _, e := parse.Program(got)
		if len(got) > 8192 && (len(q.Funcs) != 0 || e != api.ErrLong) {
			t.Errorf("a text of %d bytes is parsed with %d", len(got), e)
		}
		if len(got) <= 8192 && (!sameFuncs(p.Funcs, q.Funcs) || e != api.OK) {
			t.Errorf("a text of %d bytes is parsed as %v, %d", len(got), q, e)
		}
	}
}

// P1: the largest expression, which has more than 500,000 numbers, and arguments that are such expressions.
func TestLargeExpressions(t *testing.T) {
	e, size := num(7), 1
	for depth := 2; depth <= 20; depth++ {
		if depth > 2 {
			size += 2
		}
		e, size = plus(e, e), 2*size+3
	}
	got, err := printer.Expr(e)
	if len(got) != size || err != api.OK {
		t.Errorf("%d bytes, %d; want %d", len(got), err, size)
	}
	got, err = printer.Head(call("", "f", slices.Repeat(exprs(e), 8)...))
	if len(got) != 8*size+2*7+len("f();") || err != api.OK {
		t.Errorf("%d bytes, %d", len(got), err)
	}
}

// P1: what has itself in it is too deep.
func TestCircles(t *testing.T) {
	e := plus(a, a)
	e.Args[1] = e
	got, err := printer.Expr(e)
	answer(t, "a circle", got, err, "", api.ErrArg)
	e = minus(a)
	e.Args[0] = e
	got, err = printer.Head(give(e))
	answer(t, "a circle", got, err, "", api.ErrArg)
	s := loop(a, read("x"))
	s.Body[0] = s
	got, err = printer.Head(s)
	answer(t, "a circle", got, err, "", api.ErrArg)
	f := api.Func{Name: "f", Body: block(s), Count: 200}
	got, err = printer.Func(f)
	answer(t, "a circle", got, err, "", api.ErrArg)
	got, err = printer.Program(program(f))
	answer(t, "a circle", got, err, "", api.ErrArg)
	got, err = printer.List(f)
	answer(t, "a circle", got, err, "", api.ErrArg)
}
