package clone_test

import (
	"fmt"
	"testing"

	"rewind/api"
	"rewind/clone"
	"rewind/parse"
)

// function returns a function that has all kinds of parts.
func function(t *testing.T) api.Func {
	t.Helper()
	p, at, e := parse.Program("func f(a int, b array) int { if a < -b[a + 1] { x = f(a * 2, len(b)); while !true { b[a] = 3; } } else { if a { } print a; } return a; }")
	if e != api.OK {
		t.Fatal(at, e)
	}
	return p.Funcs[0]
}

// spoil overwrites all memory of a function, and returns how many parts it has.
func spoil(f api.Func) int {
	n := len(f.Params)
	clear(f.Params)
	var exprs func(l []api.Expr)
	exprs = func(l []api.Expr) {
		for _, e := range l {
			n++
			exprs(e.Args)
		}
		clear(l)
	}
	var stmts func(l []api.Stmt)
	stmts = func(l []api.Stmt) {
		for _, s := range l {
			n++
			exprs(s.Args)
			stmts(s.Body)
			stmts(s.Else)
		}
		clear(l)
	}
	stmts(f.Body)
	return n
}

// A copy of a function is equal to it, and shares no memory with it, nor with another copy.
func TestFunc(t *testing.T) {
	f := function(t)
	want := fmt.Sprintf("%+v", f)
	one, two := clone.Func(f), clone.Func(f)
	if fmt.Sprintf("%+v", one) != want {
		t.Errorf("%+v; want %s", one, want)
	}
	if n := spoil(one); n != 27 || fmt.Sprintf("%+v", f) != want || fmt.Sprintf("%+v", two) != want {
		t.Errorf("%d parts; %+v; %+v; want %s", n, f, two, want)
	}
	spoil(f)
	if fmt.Sprintf("%+v", two) != want {
		t.Errorf("%+v; want %s", two, want)
	}
}

// A copy has the numbers of what is copied, right or not.
func TestNumbers(t *testing.T) {
	f := function(t)
	f.Count = -4
	f.Body[0].No = 9
	f.Body[0].Body[1].Body[0].No = -1
	want := fmt.Sprintf("%+v", f)
	if got := fmt.Sprintf("%+v", clone.Func(f)); got != want {
		t.Errorf("%s; want %s", got, want)
	}
}

// A copy of a statement is equal to it, and shares no memory with it, nor with another copy.
func TestStmt(t *testing.T) {
	f := function(t)
	want := fmt.Sprintf("%+v", f.Body[0])
	one, two := clone.Stmt(f.Body[0]), clone.Stmt(f.Body[0])
	if fmt.Sprintf("%+v", one) != want {
		t.Errorf("%+v; want %s", one, want)
	}
	spoil(api.Func{Body: []api.Stmt{one}})
	if fmt.Sprintf("%+v", f.Body[0]) != want || fmt.Sprintf("%+v", two) != want {
		t.Errorf("%+v; %+v; want %s", f.Body[0], two, want)
	}
	spoil(f)
	if fmt.Sprintf("%+v", two) != want {
		t.Errorf("%+v; want %s", two, want)
	}
}

// Parts that are the same memory become different memory.
func TestSharedParts(t *testing.T) {
	args := []api.Expr{{Kind: api.EVar, Name: "x"}}
	both := []api.Expr{{Kind: api.EUnary, Op: api.Not, Args: args}, {Kind: api.EUnary, Op: api.Minus, Args: args}}
	body := []api.Stmt{{Kind: api.SRead, Name: "x"}}
	s := clone.Stmt(api.Stmt{Kind: api.SIf, Args: both, Body: body, Else: body})
	s.Args[0].Args[0].Name = "y"
	s.Body[0].Name = "y"
	if s.Args[1].Args[0].Name != "x" || s.Else[0].Name != "x" || args[0].Name != "x" || body[0].Name != "x" {
		t.Errorf("%+v", s)
	}
}

// What stands behind the length of a slice is neither copied nor overwritten.
func TestBehindTheLength(t *testing.T) {
	args := []api.Expr{{Kind: api.EVar, Name: "x"}}
	body := []api.Stmt{{Kind: api.SRead, Name: "x"}}
	params := []api.Param{{Name: "x"}}
	f := clone.Func(api.Func{Params: params[:0], Body: []api.Stmt{{Args: args[:0], Body: body[:0], Else: body[:0]}}})
	s := f.Body[0]
	f.Params, s.Args = append(f.Params, api.Param{}), append(s.Args, api.Expr{})
	s.Body, s.Else = append(s.Body, api.Stmt{}), append(s.Else, api.Stmt{})
	if len(f.Params)+len(s.Args)+len(s.Body)+len(s.Else) != 4 || params[0].Name != "x" || args[0].Name != "x" || body[0].Name != "x" {
		t.Errorf("%+v, %v, %v, %v", f, params, args, body)
	}
}
