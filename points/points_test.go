package points_test

import (
	"fmt"
	"math"
	"testing"

	"rewind/api"
	"rewind/parse"
	"rewind/points"
)

// function returns the function with these parameters, in parentheses, possibly a result type, and these statements.
func function(t *testing.T, head, body string) api.Func {
	t.Helper()
	text := "func f" + head + " {" + body + "}"
	p, at, e := parse.Program(text)
	if e != api.OK || len(p.Funcs) != 1 {
		t.Fatalf("%s: %v, %d", text, at, e)
	}
	return p.Funcs[0]
}

// body returns the function with these statements.
func body(t *testing.T, text string) api.Func {
	t.Helper()
	return function(t, "()", text)
}

// same reports whether two things are written in the same way, in which a nil slice is as an empty one.
func same(a, b any) bool { return fmt.Sprintf("%+v", a) == fmt.Sprintf("%+v", b) }

// all returns what All yields for a function.
func all(f api.Func) (numbers []int, list []api.Stmt) {
	for no, s := range points.All(f) {
		numbers, list = append(numbers, no), append(list, s)
	}
	return numbers, list
}

// point reports an error if a call did not return this point.
func point(t *testing.T, what string, no, got int, e api.Errno, want int) {
	t.Helper()
	if got != want || e != api.OK {
		t.Errorf("%s of %d = %d, %d; want %d", what, no, got, e, want)
	}
}

// each reports an error if a function of the package does not return these numbers for the statements of f.
func each(t *testing.T, f api.Func, what string, call func(f api.Func, no int) (int, api.Errno), want []int) {
	t.Helper()
	if len(want) != f.Count {
		t.Fatalf("%d statements, and %d numbers", f.Count, len(want))
	}
	for no, n := range want {
		got, e := call(f, no)
		point(t, what, no, got, e, n)
	}
}

// after reports an error if these are not the points behind the statements of a function.
func after(t *testing.T, f api.Func, want ...int) {
	t.Helper()
	each(t, f, "After", points.After, want)
}

// depths reports an error if these are not the depths of the statements of a function.
func depths(t *testing.T, f api.Func, want ...int) {
	t.Helper()
	each(t, f, "Depth", points.Depth, want)
}

// lasts reports an error if these are not the last numbers of the blocks of the statements of a function.
func lasts(t *testing.T, f api.Func, want ...int) {
	t.Helper()
	each(t, f, "Last", points.Last, want)
}

// enter reports an error if these are not the points into a statement.
func enter(t *testing.T, f api.Func, no, wantTrue, wantFalse int) {
	t.Helper()
	got, e := points.Enter(f, no, true)
	point(t, "Enter with true", no, got, e, wantTrue)
	got, e = points.Enter(f, no, false)
	point(t, "Enter with false", no, got, e, wantFalse)
}

// parents reports an error if these are not the parents of the statements of a function, -1 for none.
func parents(t *testing.T, f api.Func, want ...int) {
	t.Helper()
	if len(want) != f.Count {
		t.Fatalf("%d statements, and %d parents", f.Count, len(want))
	}
	for no, p := range want {
		got, ok, e := points.Parent(f, no)
		if p == -1 && (got != 0 || ok || e != api.OK) || p >= 0 && (got != p || !ok || e != api.OK) {
			t.Errorf("Parent of %d = %d, %v, %d; want %d", no, got, ok, e, p)
		}
	}
}

// statements reports an error if a function does not have statements of these kinds.
func statements(t *testing.T, f api.Func, kinds ...int) {
	t.Helper()
	numbers, list := all(f)
	if len(list) != len(kinds) || f.Count != len(kinds) {
		t.Fatalf("%d statements; want %d", len(list), len(kinds))
	}
	for i, kind := range kinds {
		s, e := points.At(f, i)
		if e != api.OK || s.No != i || s.Kind != kind || numbers[i] != i || !same(list[i], s) {
			t.Errorf("%d is %+v, %d, and %+v", i, s, e, list[i])
		}
	}
}

// fails reports an error if one of the functions that look for a statement does not return this error, and zero values.
func fails(t *testing.T, f api.Func, no int, want api.Errno) {
	t.Helper()
	if s, e := points.At(f, no); !same(s, api.Stmt{}) || e != want {
		t.Errorf("At of %d = %+v, %d; want %d", no, s, e, want)
	}
	if n, ok, e := points.Parent(f, no); n != 0 || ok || e != want {
		t.Errorf("Parent of %d = %d, %v, %d; want %d", no, n, ok, e, want)
	}
	for what, call := range map[string]func() (int, api.Errno){
		"After":            func() (int, api.Errno) { return points.After(f, no) },
		"Enter with true":  func() (int, api.Errno) { return points.Enter(f, no, true) },
		"Enter with false": func() (int, api.Errno) { return points.Enter(f, no, false) },
		"Last":             func() (int, api.Errno) { return points.Last(f, no) },
		"Depth":            func() (int, api.Errno) { return points.Depth(f, no) },
	} {
		if n, e := call(); n != 0 || e != want {
			t.Errorf("%s of %d = %d, %d; want %d", what, no, n, e, want)
		}
	}
}

// sample returns the function of the chapter's examples.
func sample(t *testing.T) api.Func {
	return function(t, "(x int)", "x = 1; while x < 5 { if x == 2 { print x; } else { x = 9; } x = x + 1; } print x;")
}

// P9.1 to P9.5: the chapter's examples.
func TestExamples(t *testing.T) {
	f := sample(t)
	statements(t, f, api.SSet, api.SWhile, api.SIf, api.SPrint, api.SSet, api.SSet, api.SPrint)
	after(t, f, 1, 6, 5, 5, 5, 1, 7)
	enter(t, f, 1, 2, 6)
	enter(t, f, 2, 3, 4)
	noEnter(t, f, 0)
	parents(t, f, -1, -1, 1, 2, 2, 1, -1)
	depths(t, f, 0, 0, 1, 2, 2, 1, 0)
	lasts(t, f, 6, 6, 5, 3, 4, 5, 6)
	fails(t, f, 7, api.ErrRange)
	fails(t, f, -1, api.ErrRange)
}

// noEnter reports an error if a statement has a point into it.
func noEnter(t *testing.T, f api.Func, no int) {
	t.Helper()
	for _, cond := range []bool{false, true} {
		if n, e := points.Enter(f, no, cond); n != 0 || e != api.ErrArg {
			t.Errorf("Enter of %d with %v = %d, %d", no, cond, n, e)
		}
	}
}

// P9.1: all kinds of statements, with all that belongs to them.
func TestKinds(t *testing.T) {
	f := function(t, "(a int, b array) int", `
		var x int;
		var y bool = !true;
		x = a + 1;
		b[x] = -a;
		b = new len(b);
		read x;
		print b[x];
		f(x, b);
		x = f(1, b);
		if y {
			return x;
		} else {
			while false {
				f();
			}
			return;
		}`)
	statements(t, f, 1, 1, 2, 3, 4, 5, 6, 7, 7, 9, 8, 10, 7, 8)
	branch := f.Body[9]
	want := append(append([]api.Stmt{}, f.Body...), branch.Body[0], branch.Else[0], branch.Else[0].Body[0], branch.Else[1])
	_, list := all(f)
	for no, s := range want {
		if got, e := points.At(f, no); !same(got, s) || e != api.OK || !same(list[no], s) {
			t.Errorf("%d is %+v, %d, and %+v; want %+v", no, got, e, list[no], s)
		}
	}
	after(t, f, 1, 2, 3, 4, 5, 6, 7, 8, 9, 14, 14, 13, 11, 14)
	for _, no := range []int{0, 1, 2, 3, 4, 5, 6, 7, 8, 10, 12, 13} {
		noEnter(t, f, no)
	}
	enter(t, f, 9, 10, 11)
	enter(t, f, 11, 12, 13)
	parents(t, f, -1, -1, -1, -1, -1, -1, -1, -1, -1, -1, 9, 9, 11, 9)
	depths(t, f, 0, 0, 0, 0, 0, 0, 0, 0, 0, 0, 1, 1, 2, 1)
	lasts(t, f, 13, 13, 13, 13, 13, 13, 13, 13, 13, 13, 10, 13, 12, 13)
}

// P9.1 to P9.5: a function with no statement has the end alone.
func TestNoStatement(t *testing.T) {
	for _, head := range []string{"()", "(a int) bool"} {
		f := function(t, head, "")
		statements(t, f)
		for _, no := range []int{-1, 0, 1, math.MinInt, math.MaxInt} {
			fails(t, f, no, api.ErrRange)
		}
	}
}

// P9.1 to P9.5: functions with one statement, of each kind.
func TestOneStatement(t *testing.T) {
	for i, text := range []string{"var x int;", "x = 1;", "x[1] = 2;", "x = new 1;", "read x;", "print 1;", "f();", "return;", "if true { }", "while true { }"} {
		f := body(t, text)
		statements(t, f, i+1)
		after(t, f, 1)
		parents(t, f, -1)
		depths(t, f, 0)
		lasts(t, f, 0)
		switch text[0] {
		default:
			noEnter(t, f, 0)
		case 'i':
			enter(t, f, 0, 1, 1)
		case 'w':
			enter(t, f, 0, 0, 1)
		}
		for _, no := range []int{-1, 1, 2, math.MinInt, math.MaxInt, 1 << 32, -1 << 32} {
			fails(t, f, no, api.ErrRange)
		}
	}
}

// P9.2: the rows of the table of points behind a statement.
func TestAfter(t *testing.T) {
	// The next statement of the block, of each kind of block, whether there are statements in between or not.
	after(t, body(t, "read a; read b; read c;"), 1, 2, 3)
	after(t, body(t, "if a { read a; read b; } read c;"), 3, 2, 3, 4)
	after(t, body(t, "if a { } else { read a; read b; } read c;"), 3, 2, 3, 4)
	after(t, body(t, "while a { read a; read b; } read c;"), 3, 2, 0, 4)
	after(t, body(t, "if a { if b { read a; } else { read b; } read c; } read d;"), 5, 4, 4, 4, 5, 6)
	after(t, body(t, "while a { while b { read a; } read b; } read c;"), 4, 3, 1, 0, 5)
	// The last statement of the function's block, of each kind that has blocks.
	after(t, body(t, "read a; if a { read b; } else { read c; }"), 1, 4, 4, 4)
	after(t, body(t, "read a; while a { read b; }"), 1, 3, 1)
	// The last statement of a block, several times.
	after(t, body(t, "if a { if b { if c { read d; } } }"), 4, 4, 4, 4)
	after(t, body(t, "if a { } else { if b { } else { if c { } else { read d; } } }"), 4, 4, 4, 4)
	after(t, body(t, "if a { if b { if c { read d; } } } read e;"), 4, 4, 4, 4, 5)
	after(t, body(t, "while a { while b { while c { read d; } } }"), 4, 0, 1, 2)
	after(t, body(t, "while a { while b { while c { read d; } } } read e;"), 4, 0, 1, 2, 5)
	// An SIf inside an SWhile, and an SWhile inside an SIf, several times.
	after(t, body(t, "while a { if b { if c { read d; } else { read e; } } }"), 5, 0, 0, 0, 0)
	after(t, body(t, "while a { if b { if c { read d; } else { read e; } } } read f;"), 5, 0, 0, 0, 0, 6)
	after(t, body(t, "if a { while b { while c { read d; } } }"), 4, 4, 1, 2)
	after(t, body(t, "if a { } else { while b { while c { read d; } } } read e;"), 4, 4, 1, 2, 5)
	after(t, body(t, "while a { if b { while c { if d { read e; } } } } read f;"), 5, 0, 0, 2, 2, 6)
	after(t, body(t, "if a { while b { if c { while d { read e; } } } } else { read f; } read g;"), 6, 6, 1, 1, 3, 6, 7)
	after(t, body(t, "while a { if b { while c { if d { } else { read e; } } read f; } else { } } read g;"), 6, 0, 5, 2, 2, 0, 7)
}

// P9.3: the rows of the table of points into a statement.
func TestEnter(t *testing.T) {
	for _, x := range []struct {
		text              string
		no                int
		wantTrue, wantNot int
	}{
		// An SIf that is followed by a statement.
		{"if a { read a; } else { read b; } read c;", 0, 1, 2},
		{"if a { read a; read b; } else { read c; read d; } read e;", 0, 1, 3},
		{"if a { read a; } read c;", 0, 1, 2},
		{"if a { } else { read b; } read c;", 0, 2, 1},
		{"if a { } read c;", 0, 1, 1},
		{"if a { } else { } read c;", 0, 1, 1},
		// The last one of the function.
		{"if a { read a; } else { read b; }", 0, 1, 2},
		{"if a { read a; }", 0, 1, 2},
		{"if a { } else { read b; }", 0, 2, 1},
		{"if a { }", 0, 1, 1},
		{"read a; if a { }", 1, 2, 2},
		// The last one of the block of an SIf, or of an SWhile.
		{"if a { if b { } }", 1, 2, 2},
		{"if a { if b { } } else { read c; }", 1, 3, 3},
		{"if a { if b { } } else { read c; } read d;", 1, 3, 3},
		{"if a { } else { if b { } else { read c; } }", 1, 3, 2},
		{"while a { if b { } }", 1, 0, 0},
		{"while a { if b { read c; } } read d;", 1, 2, 0},
		{"while a { if b { } else { read c; } } read d;", 1, 0, 2},
		{"while a { if b { if c { } } } read d;", 2, 0, 0},
		{"while a { if b { if c { } } else { read d; } } read e;", 2, 0, 0},
		// An SWhile that is followed by a statement, and the last one of the function.
		{"while a { read a; } read b;", 0, 1, 2},
		{"while a { read a; read b; } read c;", 0, 1, 3},
		{"while a { } read b;", 0, 0, 1},
		{"while a { read a; }", 0, 1, 2},
		{"while a { }", 0, 0, 1},
		{"read a; while a { }", 1, 1, 2},
		// The last one of the block of an SIf, or of an SWhile.
		{"if a { while b { } }", 1, 1, 2},
		{"if a { while b { } } else { read c; } read d;", 1, 1, 3},
		{"if a { while b { read c; } } else { read d; }", 1, 2, 4},
		{"if a { } else { while b { } } read c;", 1, 1, 2},
		{"while a { while b { } }", 1, 1, 0},
		{"while a { while b { read c; } } read d;", 1, 2, 0},
		{"while a { while b { while c { } } } read d;", 2, 2, 1},
		{"while a { if b { while c { } } } read d;", 2, 2, 0},
		{"while a { read b; while c { } read d; }", 2, 2, 3},
	} {
		f := body(t, x.text)
		enter(t, f, x.no, x.wantTrue, x.wantNot)
		if t.Failed() {
			t.Fatal(x.text)
		}
	}
}

// P9.4: the parent is the nearest statement around, in whichever block of it.
func TestParentAndDepth(t *testing.T) {
	f := body(t, "read a; if a { read b; while b { read c; if c { } else { read d; } } read e; } else { if d { read g; } } while e { } read h;")
	parents(t, f, -1, -1, 1, 1, 3, 3, 5, 1, 1, 8, -1, -1)
	depths(t, f, 0, 0, 1, 1, 2, 2, 3, 1, 1, 2, 0, 0)
}

// P9.5: the last number of a block is that of its last statement, or of the last one nested in it.
func TestLast(t *testing.T) {
	lasts(t, body(t, "read a; read b; read c;"), 2, 2, 2)
	lasts(t, body(t, "if a { read b; } read c;"), 2, 1, 2)
	lasts(t, body(t, "read c; if a { read b; }"), 2, 2, 2)
	lasts(t, body(t, "if a { read b; } else { read c; read d; }"), 3, 1, 3, 3)
	lasts(t, body(t, "if a { read b; read c; } else { read d; }"), 3, 2, 2, 3)
	lasts(t, body(t, "if a { } else { read d; }"), 1, 1)
	lasts(t, body(t, "while a { while b { while c { read d; } } }"), 3, 3, 3, 3)
	lasts(t, body(t, "while a { while b { while c { } read d; } read e; } read f;"), 5, 4, 3, 3, 4, 5)
	lasts(t, body(t, "read a; if b { if c { read d; } else { while e { } } } else { if g { read h; } }"), 6, 6, 4, 3, 4, 6, 6)
	lasts(t, body(t, "if b { if c { read d; } else { if e { read g; } else { } } }"), 4, 4, 2, 4, 4)
}
