package names_test

import (
	"math"
	"slices"
	"strings"
	"testing"

	"rewind/api"
	"rewind/names"
	"rewind/parse"
)

// function returns the function with these parameters, in parentheses, possibly a result type, and these statements.
func function(t *testing.T, head, body string) api.Func {
	t.Helper()
	text := "func f" + head + " {" + body + "}"
	p, at, e := parse.Program(text)
	if e != api.OK || len(p.Funcs) != 1 {
		t.Fatalf("%s: %v, %d", text, at, e)
	}
	return p.Funcs[0]
}

// v returns a variable.
func v(name string, kind, no, from, to int) names.Var {
	return names.Var{Name: name, Type: kind, No: no, From: from, To: to}
}

// list returns variables as a list.
func list(l ...names.Var) []names.Var { return l }

// of reports an error if these are not the variables of a function.
func of(t *testing.T, f api.Func, want ...names.Var) {
	t.Helper()
	if l, no, e := names.Of(f); !slices.Equal(l, want) || no != 0 || e != api.OK {
		t.Errorf("Of = %v, %d, %d; want %v\nof %+v", l, no, e, want, f)
	}
}

// fails reports an error if Of does not return this number and this error for a function.
func fails(t *testing.T, f api.Func, wantNo int, want api.Errno) {
	t.Helper()
	if l, no, e := names.Of(f); len(l) != 0 || no != wantNo || e != want {
		t.Errorf("Of = %v, %d, %d; want %d, %d\nof %+v", l, no, e, wantNo, want, f)
	}
}

// in reports an error if these are not the variables of a list that are in scope at a point.
func in(t *testing.T, l []names.Var, point int, want ...int) {
	t.Helper()
	if got := names.In(l, point); !slices.Equal(got, want) {
		t.Errorf("In at %d = %v; want %v\nof %v", point, got, want, l)
	}
}

// find reports an error if this is not the index of the variable with a name; -1 for none.
func find(t *testing.T, l []names.Var, name string, want int) {
	t.Helper()
	if i, ok := names.Find(l, name); i != max(want, 0) || ok != (want >= 0) {
		t.Errorf("Find of %q = %d, %v; want %d\nof %v", name, i, ok, want, l)
	}
}

// seen reports an error if this is not the index of the variable with a name that is in scope at a point; -1 for none.
func seen(t *testing.T, l []names.Var, name string, point, want int) {
	t.Helper()
	if i, ok := names.Seen(l, name, point); i != max(want, 0) || ok != (want >= 0) {
		t.Errorf("Seen of %q at %d = %d, %v; want %d\nof %v", name, point, i, ok, want, l)
	}
}

// The function of the chapter's examples.
const (
	head = "(a int, b array)"
	body = "var c int; if c < 1 { var d bool; print d; } else { var e int = 2; } while true { var g int; g = 1; } print c;"
)

// variables returns the variables of the function of the chapter's examples.
func variables() []names.Var {
	return list(
		v("a", api.Int, -1, 0, 10),
		v("b", api.Array, -1, 0, 10),
		v("c", api.Int, 0, 1, 10),
		v("d", api.Bool, 2, 3, 4),
		v("e", api.Int, 4, 5, 5),
		v("g", api.Int, 6, 7, 8),
	)
}

// P10.1 and P10.2: the chapter's examples.
func TestExamples(t *testing.T) {
	of(t, function(t, head, body), variables()...)
	l := variables()
	in(t, l, 0, 0, 1)
	in(t, l, 3, 0, 1, 2, 3)
	in(t, l, 5, 0, 1, 2)
	in(t, l, 7, 0, 1, 2, 5)
	in(t, l, 9, 0, 1, 2)
	in(t, l, 10)
	find(t, l, "d", 3)
	find(t, l, "x", -1)
	seen(t, l, "d", 3, 3)
	seen(t, l, "d", 4, -1)
	fails(t, function(t, head, body+"var a int;"), 9, api.ErrName)
	fails(t, function(t, "(a int, a array)", body), -1, api.ErrName)
}

// P10.2: the variables of the examples at all points, and at those that there are not.
func TestAllPointsOfTheExample(t *testing.T) {
	l := variables()
	for point, want := range [][]int{{0, 1}, {0, 1, 2}, {0, 1, 2}, {0, 1, 2, 3}, {0, 1, 2}, {0, 1, 2}, {0, 1, 2}, {0, 1, 2, 5}, {0, 1, 2}, {0, 1, 2}} {
		in(t, l, point, want...)
		for i, x := range l {
			if slices.Contains(want, i) {
				seen(t, l, x.Name, point, i)
			} else {
				seen(t, l, x.Name, point, -1)
			}
			find(t, l, x.Name, i)
		}
	}
	for _, point := range []int{math.MinInt, -1 << 32, -1, 10, 11, 1<<32 + 3, math.MaxInt} {
		in(t, l, point)
		for _, x := range l {
			seen(t, l, x.Name, point, -1)
		}
	}
}

// P10.2: names that no variable has.
func TestNoSuchName(t *testing.T) {
	l := variables()
	for _, name := range append(strings.Fields("x A B C f aa ab a_ a1 1 _ int var ä abcdefghijklmnopq"), "", " ", "a ", " a", "a\x00", "\x00") {
		find(t, l, name, -1)
		for point := range 10 {
			seen(t, l, name, point, -1)
		}
	}
}

// P10.1, the first row of the table: parameters are in scope everywhere.
func TestParameters(t *testing.T) {
	of(t, function(t, "(a int)", ""), v("a", api.Int, -1, 0, 1))
	of(t, function(t, "(a bool)", "print a;"), v("a", api.Bool, -1, 0, 2))
	of(t, function(t, "(b int, a array, c bool) array", "if c { while c { } } return a;"),
		v("b", api.Int, -1, 0, 4), v("a", api.Array, -1, 0, 4), v("c", api.Bool, -1, 0, 4))
}

// P10.1, the second row of the table: a statement in the function's own block, whatever stands in front of it and behind it.
func TestOwnBlock(t *testing.T) {
	of(t, function(t, "()", "var x int;"), v("x", api.Int, 0, 1, 2))
	of(t, function(t, "()", "var x bool = true;"), v("x", api.Bool, 0, 1, 2))
	of(t, function(t, "()", "var x array; print 1; print 2;"), v("x", api.Array, 0, 1, 4))
	of(t, function(t, "()", "print 1; print 2; var x int;"), v("x", api.Int, 2, 3, 4))
	of(t, function(t, "()", "var x int; var y int; var z int;"), v("x", api.Int, 0, 1, 4), v("y", api.Int, 1, 2, 4), v("z", api.Int, 2, 3, 4))
	of(t, function(t, "()", "if true { print 1; } else { print 2; } var x int; while true { print 3; }"), v("x", api.Int, 3, 4, 7))
	of(t, function(t, "()", "while true { if true { print 1; } } var x int;"), v("x", api.Int, 3, 4, 5))
	of(t, function(t, "(a int)", "var x int; if true { print 1; } else { print 2; }"), v("a", api.Int, -1, 0, 5), v("x", api.Int, 0, 1, 5))
}

// P10.1, the third row of the table: a statement in a block of another statement.
func TestOtherBlocks(t *testing.T) {
	// Each kind of block, with other statements in front and behind, inside and outside.
	of(t, function(t, "()", "if true { var x int; print x; } print 1;"), v("x", api.Int, 1, 2, 3))
	of(t, function(t, "()", "if true { } else { var x int; print x; } print 1;"), v("x", api.Int, 1, 2, 3))
	of(t, function(t, "()", "while true { var x int; print x; } print 1;"), v("x", api.Int, 1, 2, 3))
	of(t, function(t, "()", "print 1; if true { print 2; var x int; print x; print 3; } else { print 4; }"), v("x", api.Int, 3, 4, 6))
	of(t, function(t, "()", "print 1; if true { print 4; } else { print 2; var x int; print x; print 3; }"), v("x", api.Int, 4, 5, 7))
	of(t, function(t, "()", "print 1; while true { print 2; var x int; print x; print 3; } print 4;"), v("x", api.Int, 3, 4, 6))
	// With all that is nested behind the declaration, and not what is nested in front of it.
	of(t, function(t, "()", "if true { var x int; if true { print 1; } else { print 2; } } print 3;"), v("x", api.Int, 1, 2, 5))
	of(t, function(t, "()", "while true { if true { print 1; } var x int; while true { if true { print 2; } } } print 3;"), v("x", api.Int, 3, 4, 7))
	of(t, function(t, "()", "if true { print 1; } else { var x int; if true { } else { while true { } } }"), v("x", api.Int, 2, 3, 5))
	// Blocks in blocks, of each kind.
	of(t, function(t, "()", "var a int; if true { var b int; while true { var c int; if true { print 1; } else { var d int; print 2; } print 3; } print 4; } print 5;"),
		v("a", api.Int, 0, 1, 13), v("b", api.Int, 2, 3, 11), v("c", api.Int, 4, 5, 10), v("d", api.Int, 7, 8, 9))
	// At the end of the function, blocks end in front of its end.
	of(t, function(t, "()", "while true { var x int; while true { var y int; print y; } }"), v("x", api.Int, 1, 2, 5), v("y", api.Int, 3, 4, 5))
	of(t, function(t, "()", "if true { } else { if true { var x int; print x; } else { var y int; print y; } }"), v("x", api.Int, 2, 3, 4), v("y", api.Int, 4, 5, 6))
}

// P10.1 and P10.2: a declaration that is the last statement of its block is in scope nowhere, but in the function's own block it is so at the end.
func TestLastOfItsBlock(t *testing.T) {
	for _, x := range []struct {
		text string
		want names.Var
	}{
		{"if true { var x int; }", v("x", api.Int, 1, 2, 2)},
		{"if true { print 1; var x int; } else { print 2; } print 3;", v("x", api.Int, 2, 3, 3)},
		{"if true { print 1; } else { print 2; var x int; }", v("x", api.Int, 3, 4, 4)},
		{"while true { var x int; }", v("x", api.Int, 1, 2, 2)},
		{"while true { if true { print 1; } else { while true { print 2; } } var x bool; } print 3;", v("x", api.Bool, 5, 6, 6)},
		{"if true { while true { print 1; if true { print 2; } var x int; } print 3; } else { print 4; }", v("x", api.Int, 5, 6, 6)},
		{"while true { while true { while true { var x array; } } }", v("x", api.Array, 3, 4, 4)},
	} {
		f := function(t, "()", x.text)
		of(t, f, x.want)
		for point := range f.Count + 2 {
			in(t, list(x.want), point)
			seen(t, list(x.want), "x", point, -1)
		}
		find(t, list(x.want), "x", 0)
	}
	f := function(t, "()", "print 1; while true { } var x int;")
	l, _, _ := names.Of(f)
	for point, want := range [][]int{nil, nil, nil, {0}, nil} {
		in(t, l, point, want...)
	}
}

// P10.1: functions without a declaration.
func TestNoDeclaration(t *testing.T) {
	of(t, function(t, "()", ""))
	of(t, function(t, "() int", "return 1;"))
	of(t, function(t, "()", "x = 1; x[1] = 2; x = new 3; read x; print x; x(); x = x(); return; if x { x = 2; } else { read x; } while x { print x; }"))
}

// P10.1: a name that is declared a second time is wrong there, wherever the first one is in scope.
func TestDeclaredTwice(t *testing.T) {
	for _, x := range []struct {
		head, body string
		no         int
	}{
		{"(a int, a int)", "", -1},
		{"(a int, b int, a bool)", "var a int; var b int;", -1},
		{"(a int, b int, c int, d int, e int, g int, h int, a array)", "", -1},
		{"(a int)", "var a int;", 0},
		{"(a int)", "print 1; if true { while true { var a bool; } }", 3},
		{"(f int)", "var b int; var f array = 1;", 1},
		{"()", "var x int; var x int;", 1},
		{"()", "var x int; var x bool;", 1},
		{"()", "var x int; print x; while true { print 1; } var x array = 1;", 4},
		// The first one is still in scope, in a block further in.
		{"()", "var x int; if true { var x int; }", 2},
		{"()", "while true { var x int; if true { } else { var x int; } }", 3},
		// It is no longer in scope: its block has ended.
		{"()", "if true { var x int; } var x int;", 2},
		{"()", "while true { var x int; print x; } var x int;", 3},
		{"()", "if true { while true { var x int; print x; } var x int; }", 4},
		{"()", "while true { var x int; } while true { var x int; }", 3},
		{"()", "if true { var x int; } if true { var x int; print x; }", 3},
		// It is in the other block of the same SIf.
		{"()", "if true { var x int; } else { var x int; }", 2},
		{"()", "if true { var x int; print x; } else { print 1; var x bool; print x; }", 4},
		{"()", "if true { while true { var x int; } } else { while true { var x int; } }", 4},
		// It is in scope nowhere.
		{"()", "while true { var x int; } print 1; var x int;", 3},
		// The first one that is wrong decides, not the first name of those that are.
		{"()", "var x int; var y int; print 1; var y int; var x int;", 3},
		{"(a int)", "var y int; if true { var y int; } var a int;", 2},
		{"(a int, b int, b int)", "var a int;", -1},
		{"()", "var x int; var x int; var x int;", 1},
	} {
		fails(t, function(t, x.head, x.body), x.no, api.ErrName)
	}
}

// P10.1: names are compared byte by byte, and a function's own name is none of its variables.
func TestDifferentNames(t *testing.T) {
	of(t, function(t, "(f int, F int)", "var f_ int; if true { var ff int; } var f1 int; var abcdefghijklmnop int; var abcdefghijklmnoP int;"),
		v("f", api.Int, -1, 0, 7), v("F", api.Int, -1, 0, 7), v("f_", api.Int, 0, 1, 7), v("ff", api.Int, 2, 3, 3),
		v("f1", api.Int, 3, 4, 7), v("abcdefghijklmnop", api.Int, 4, 5, 7), v("abcdefghijklmnoP", api.Int, 5, 6, 7))
}
