package shape_test

import (
	"fmt"
	"math"
	"testing"

	"rewind/api"
	"rewind/shape"
)

// expressions returns expressions that are all different, and have the right shape.
func expressions() []api.Expr {
	l := list(
		num(0), num(1), num(2), num(1<<32), num(math.MaxInt64), truth(0), truth(1), variable("x"), variable("y"), variable("X"), variable("x_"), length("x"), length("y"),
		index("x", num(0)), index("x", num(1)), index("y", num(0)), index("x", variable("x")), index("x", index("x", num(0))), chain(19), chain(20),
		binary(api.Sub, num(1), num(2)), binary(api.Sub, num(2), num(1)), binary(api.Sub, num(1), num(1)), binary(api.Sub, binary(api.Sub, num(1), num(2)), num(3)), binary(api.Sub, num(1), binary(api.Sub, num(2), num(3))),
	)
	for op := api.Add; op <= api.Or; op++ {
		l = append(l, binary(op, num(7), num(8)))
	}
	for op := api.Minus; op <= api.Not; op++ {
		l = append(l, unary(op, num(0)), unary(op, truth(0)), unary(op, unary(op, num(0))))
	}
	return l
}

// statements returns statements that are all different, and have the right shape.
func statements() []api.Stmt {
	x, y := list(variable("x")), list(variable("y"))
	l := block(
		api.Stmt{Kind: api.SVar, Name: "x", Type: api.Int}, api.Stmt{Kind: api.SVar, Name: "x", Type: api.Bool}, api.Stmt{Kind: api.SVar, Name: "x", Type: api.Array},
		api.Stmt{Kind: api.SVar, Name: "y", Type: api.Int}, api.Stmt{Kind: api.SVar, Name: "x", Type: api.Int, Args: x}, api.Stmt{Kind: api.SVar, Name: "x", Type: api.Int, Args: y},
		api.Stmt{Kind: api.SSet, Name: "x", Args: x}, api.Stmt{Kind: api.SSet, Name: "y", Args: x}, api.Stmt{Kind: api.SSet, Name: "x", Args: y},
		api.Stmt{Kind: api.SNew, Name: "x", Args: x}, api.Stmt{Kind: api.SNew, Name: "y", Args: x}, api.Stmt{Kind: api.SNew, Name: "x", Args: y},
		api.Stmt{Kind: api.SStore, Name: "x", Args: append(x, y...)}, api.Stmt{Kind: api.SStore, Name: "x", Args: append(y, x...)}, api.Stmt{Kind: api.SStore, Name: "y", Args: append(x, y...)},
		api.Stmt{Kind: api.SRead, Name: "x"}, api.Stmt{Kind: api.SRead, Name: "y"}, api.Stmt{Kind: api.SPrint, Args: x}, api.Stmt{Kind: api.SPrint, Args: y},
		api.Stmt{Kind: api.SCall, Callee: "x"}, api.Stmt{Kind: api.SCall, Callee: "y"}, api.Stmt{Kind: api.SCall, Callee: "x", Name: "x"}, api.Stmt{Kind: api.SCall, Callee: "x", Name: "y"},
		api.Stmt{Kind: api.SCall, Callee: "x", Args: x}, api.Stmt{Kind: api.SCall, Callee: "x", Args: append(x, x...)}, api.Stmt{Kind: api.SCall, Callee: "x", Args: append(x, y...)},
		api.Stmt{Kind: api.SReturn}, api.Stmt{Kind: api.SReturn, Args: x}, api.Stmt{Kind: api.SReturn, Args: y},
		api.Stmt{Kind: api.SIf, Args: x}, api.Stmt{Kind: api.SIf, Args: y}, api.Stmt{Kind: api.SWhile, Args: x}, api.Stmt{Kind: api.SWhile, Args: y},
	)
	for _, bodies := range [][]api.Stmt{row(1), row(2), row(199), tower(19), block(loop(row(1)...)), block(loop(), show(num(1))), block(show(num(1)), loop()), block(branch(nil, row(1)))} {
		l = append(l, loop(bodies...), branch(bodies, nil), branch(nil, bodies))
	}
	return append(l, branch(row(1), row(2)), branch(row(2), row(1)), branch(row(1), row(1)))
}

// functions returns functions that are all different, and have the right shape.
func functions() []api.Func {
	l := []api.Func{
		{Name: "f"}, {Name: "g"}, {Name: "F"}, {Name: "f", Result: api.Int}, {Name: "f", Result: api.Bool}, {Name: "f", Result: api.Array},
		{Name: "f", Params: []api.Param{{Name: "x", Type: api.Int}}}, {Name: "f", Params: []api.Param{{Name: "x", Type: api.Bool}}}, {Name: "f", Params: []api.Param{{Name: "y", Type: api.Int}}},
		{Name: "f", Params: []api.Param{{Name: "x", Type: api.Int}, {Name: "y", Type: api.Int}}}, {Name: "f", Params: []api.Param{{Name: "y", Type: api.Int}, {Name: "x", Type: api.Int}}},
	}
	for _, s := range statements() {
		if size(block(s)) < 200 {
			l = append(l, right(s), right(s, show(num(1))), right(show(num(1)), s))
		}
	}
	return l
}

// equal compares all things of a list with all that are built once more: those are equal that are written in the same way, and most are not.
func equal[T any](t *testing.T, list func() []T, same func(a, b T) bool) {
	t.Helper()
	a, b := list(), list()
	written := map[string]int{}
	for i := range a {
		s := fmt.Sprintf("%+v", a[i])
		if _, ok := written[s]; !ok {
			written[s] = i
		}
		for k := range b {
			want := s == fmt.Sprintf("%+v", b[k])
			if same(a[i], b[k]) != want || same(b[k], a[i]) != want {
				t.Errorf("%+v and %+v: %v", a[i], b[k], !want)
			}
		}
	}
	if len(written) < len(a)/2 {
		t.Errorf("of %d only %d are different", len(a), len(written))
	}
}

// P3.3 and P3.7: each is equal to itself, and to no other one, in both orders.
func TestEqualExpressions(t *testing.T) { equal(t, expressions, shape.SameExpr) }

// P3.3 and P3.7
func TestEqualStatements(t *testing.T) { equal(t, statements, shape.SameStmt) }

// P3.3 and P3.7
func TestEqualFunctions(t *testing.T) { equal(t, functions, shape.SameFunc) }

// P3.3 and P3.7
func TestEqualPrograms(t *testing.T) {
	equal(t, func() []api.Program {
		l := []api.Program{{}}
		var first api.Func
		for _, f := range functions()[:40] {
			l = append(l, program(f), program(f, f), program(f, function(show(num(3)))), program(function(show(num(3))), f), program(function(show(num(4))), f))
			first = f
		}
		return append(l, program(first, first, first))
	}, shape.Same)
}

// P3.3: what differs in one expression only is different, wherever that stands.
func TestDifferentParts(t *testing.T) {
	around := func(e api.Expr) []api.Stmt {
		return block(
			show(e), show(unary(api.Not, e)), show(binary(api.Add, e, num(1))), show(binary(api.Add, num(1), e)), show(index("a", e)),
			api.Stmt{Kind: api.SStore, Name: "a", Args: list(e, num(1))}, api.Stmt{Kind: api.SStore, Name: "a", Args: list(num(1), e)},
			api.Stmt{Kind: api.SCall, Callee: "f", Args: list(num(1), num(2), num(3), num(4), num(5), num(6), num(7), e)},
			loop(show(num(1)), loop(show(e))), branch(block(show(num(1)), show(e)), row(1)), branch(row(1), block(show(num(1)), loop(show(e)))),
		)
	}
	l := expressions()[:18]
	for i, a := range l {
		for k, b := range l {
			for at, s := range around(a) {
				if want := i == k; shape.SameStmt(s, around(b)[at]) != want || shape.SameFunc(function(s), function(around(b)[at])) != want {
					t.Errorf("%+v and %+v: %v", s, around(b)[at], !want)
				}
			}
		}
	}
}

// P3.3 and P3.7: of random expressions, functions and programs those are equal that are written in the same way.
func TestEqualAtRandom(t *testing.T) {
	equal(t, func() []api.Expr {
		r := random(3)
		var l []api.Expr
		for range 300 {
			l = append(l, r.expr(5))
		}
		return l
	}, shape.SameExpr)
	programs := func() []api.Program {
		r := random(2)
		var l []api.Program
		for range 120 {
			if p := shape.Number(r.program()); len(p.Funcs) > 0 {
				l = append(l, p)
			}
		}
		return l
	}
	equal(t, programs, shape.Same)
	equal(t, func() []api.Func {
		var l []api.Func
		for _, p := range programs() {
			l = append(l, p.Funcs[0])
		}
		return l
	}, shape.SameFunc)
}

// P3.3 and P3.7: numbers do not matter to statements and functions, but a program with wrong ones is equal to none.
func TestNumbersDoNotMatter(t *testing.T) {
	build := func(from, count int) api.Func {
		f := function(show(num(1)), loop(show(num(2)), branch(row(1), row(2))))
		set(f.Body, from)
		f.Count = count
		return f
	}
	good := build(0, 7)
	for _, f := range []api.Func{build(0, 6), build(0, 0), build(0, -1), build(1, 7), build(-3, 7), build(math.MinInt, 7), build(math.MaxInt-9, math.MaxInt)} {
		if !shape.SameFunc(good, f) || !shape.SameFunc(f, good) || !shape.SameFunc(f, f) {
			t.Errorf("%+v is the same function", f)
		}
		for i := range f.Body {
			if !shape.SameStmt(good.Body[i], f.Body[i]) || !shape.SameStmt(f.Body[i], good.Body[i]) {
				t.Errorf("%+v is the same statement", f.Body[i])
			}
		}
		if shape.Same(program(good), program(f)) || shape.Same(program(f), program(good)) || shape.Same(program(f), program(f)) {
			t.Errorf("%+v does not have the right shape", f)
		}
	}
	if !shape.Same(program(good), program(build(0, 7))) {
		t.Error("programs are equal")
	}
}

// P3.3 and P3.5: with R3, a nil slice is the same as an empty one.
func TestNilAndEmptySlices(t *testing.T) {
	bare := api.Expr{Kind: api.ENum}
	full := api.Expr{Kind: api.ENum, Args: []api.Expr{}}
	if shape.Expr(full) != api.OK || shape.Depth(full) != 1 || !shape.SameExpr(bare, full) || !shape.SameExpr(full, bare) {
		t.Error("expressions")
	}
	for kind := api.SVar; kind <= api.SWhile; kind++ {
		r := random(uint64(kind))
		s := r.stmt(1)
		for s.Kind != kind {
			s = r.stmt(1)
		}
		s.Body, s.Else = nil, nil
		if len(s.Args) == 0 {
			s.Args = nil
		}
		other := s
		other.Body, other.Else = []api.Stmt{}, []api.Stmt{}
		if len(s.Args) == 0 {
			other.Args = []api.Expr{}
		}
		if !shape.SameStmt(s, other) || !shape.SameStmt(other, s) || !shape.SameStmt(s, s) || !shape.SameStmt(other, other) {
			t.Errorf("%+v", s)
		}
		f, g := right(s), right(other)
		g.Params = []api.Param{}
		if shape.Check(program(g)) != api.OK || !shape.SameFunc(f, g) || !shape.SameFunc(g, f) || !shape.Same(program(f), program(g)) || !shape.Same(program(g), program(f)) {
			t.Errorf("%+v", g)
		}
		if a, b := shape.Number(program(f)), shape.Number(program(g)); !same(a, b) || !same(a, program(f)) {
			t.Errorf("%+v and %+v", a, b)
		}
	}
	p := api.Program{Funcs: []api.Func{}}
	if shape.Check(p) != api.OK || !shape.Same(p, api.Program{}) || !shape.Same(api.Program{}, p) || len(shape.Number(p).Funcs) != 0 {
		t.Error("programs")
	}
}

// P3.3: what does not have the right shape is not even equal to itself.
func TestWrongOnesAreNotEqual(t *testing.T) {
	for _, e := range wrongs() {
		if shape.SameExpr(e, e) || shape.SameExpr(e, num(1)) || shape.SameExpr(num(1), e) {
			t.Errorf("%+v", e)
		}
	}
	// The same number with something that must not be there, on one side and on both.
	good, bad := show(num(1)), api.Stmt{Kind: api.SPrint, Name: "x", Args: list(num(1))}
	for _, x := range [][2]api.Stmt{{good, bad}, {bad, good}, {bad, bad}} {
		if shape.SameStmt(x[0], x[1]) || shape.SameFunc(right(x[0]), right(x[1])) || shape.Same(program(right(x[0])), program(right(x[1]))) {
			t.Errorf("%+v", x)
		}
		if shape.SameStmt(loop(x[0]), loop(x[1])) {
			t.Errorf("%+v in a block", x)
		}
	}
	one, other := api.Func{Name: "f"}, api.Func{Name: "1"}
	if shape.SameFunc(one, other) || shape.SameFunc(other, one) || shape.SameFunc(other, other) {
		t.Error("a function without a name is wrong")
	}
	if shape.Same(program(one), program(other)) || shape.Same(program(other), program(one)) || shape.Same(program(one), program(one, one)) || shape.Same(program(one, one), program(one)) {
		t.Error("programs with different functions are different")
	}
}
