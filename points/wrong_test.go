package points_test

import (
	"math"
	"slices"
	"strings"
	"testing"

	"rewind/api"
)

// wrong reports an error if a function is not answered with ErrArg, whatever the number is.
func wrong(t *testing.T, f api.Func) {
	t.Helper()
	for _, no := range []int{math.MinInt, -1, 0, 1, f.Count - 1, f.Count, 200, math.MaxInt} {
		fails(t, f, no, api.ErrArg)
	}
	nothing(t, f)
}

// everything has statements of all kinds, most of them in blocks.
const everything = `
	read a;
	if a < -b[1] {
		var x int = 1;
		x = a;
		b[x] = len(b);
		b = new 1;
		while !true {
			read x;
			print x;
		}
	} else {
		x = f(a, b);
		return x;
	}
	while a {
	}`

// changedStmt returns a function in which change has changed the statement with this number.
func changedStmt(t *testing.T, no int, change func(s *api.Stmt)) api.Func {
	f := function(t, "(a int, b array) int", everything)
	found := 0
	var visit func(l []api.Stmt)
	visit = func(l []api.Stmt) {
		for i := range l {
			// The change comes behind the visit, since it may change the number and the blocks.
			here := l[i].No == no
			visit(l[i].Body)
			visit(l[i].Else)
			if here {
				found++
				change(&l[i])
			}
		}
	}
	visit(f.Body)
	if found != 1 {
		t.Fatal(no, found)
	}
	return f
}

// The numbers of the statements of everything:
const (
	readNo   = 0
	ifNo     = 1
	varNo    = 2
	setNo    = 3
	storeNo  = 4
	newNo    = 5
	whileNo  = 6
	printNo  = 8
	callNo   = 9
	returnNo = 10
	emptyNo  = 11
)

// P9.1 to P9.5: the function that is changed below is right.
func TestEverything(t *testing.T) {
	f := function(t, "(a int, b array) int", everything)
	statements(t, f, api.SRead, api.SIf, api.SVar, api.SSet, api.SStore, api.SNew, api.SWhile, api.SRead, api.SPrint, api.SCall, api.SReturn, api.SWhile)
	matches(t, f)
}

// P9.1 to P9.5: a function with one field that is wrong.
func TestWrongFunctions(t *testing.T) {
	noNames := append(strings.Fields("1a _a a-b len func var if else while return print read new int bool array true false abcdefghijklmnopq a; \u00e4"), "", " ", "a ", "\x00")
	change := func(do func(f *api.Func)) {
		t.Helper()
		f := function(t, "(a int, b array) int", everything)
		do(&f)
		wrong(t, f)
	}
	for _, s := range noNames {
		change(func(f *api.Func) { f.Name = s })
		change(func(f *api.Func) { f.Params[1].Name = s })
	}
	for _, n := range []int{math.MinInt, -1, 4, 1 << 32, math.MaxInt} {
		change(func(f *api.Func) { f.Result = n })
		change(func(f *api.Func) { f.Params[0].Type = n })
	}
	change(func(f *api.Func) { f.Params[1].Type = api.None })
	change(func(f *api.Func) { f.Params = slices.Repeat(f.Params[:1], 9) })
	for _, n := range []int{math.MinInt, -1, 0, 11, 13, 200, 12 + 1<<32, math.MaxInt} {
		change(func(f *api.Func) { f.Count = n })
	}
	change(func(f *api.Func) { f.Body = nil })
	change(func(f *api.Func) { f.Body = f.Body[:2] })
	change(func(f *api.Func) { f.Body = f.Body[1:] })
	change(func(f *api.Func) { f.Body = append(f.Body, read()) })
	change(func(f *api.Func) { slices.Reverse(f.Body) })
	wrong(t, api.Func{})
	wrong(t, api.Func{Name: "f", Count: 1})
	wrong(t, api.Func{Name: "f", Body: row(1)})
	wrong(t, api.Func{Body: row(1), Count: 1})
}

// P9.1 to P9.5: a statement with a wrong number, wherever it stands.
func TestWrongNumbers(t *testing.T) {
	for no := range 12 {
		for _, n := range []int{math.MinInt, -1, no - 1, no + 1, 0, 11, 12, 200, no + 1<<32, math.MaxInt} {
			if n != no {
				wrong(t, changedStmt(t, no, func(s *api.Stmt) { s.No = n }))
			}
		}
	}
	f := function(t, "()", "if a { read b; } else { read c; } read d;")
	for _, l := range [][4]int{{0, 2, 1, 3}, {1, 0, 2, 3}, {2, 0, 1, 3}, {0, 2, 3, 1}, {0, 3, 2, 1}, {1, 2, 3, 4}, {0, 1, 1, 3}, {0, 0, 0, 0}} {
		f.Body[0].No, f.Body[0].Body[0].No, f.Body[0].Else[0].No, f.Body[1].No = l[0], l[1], l[2], l[3]
		wrong(t, f)
	}
}

// P9.1 to P9.5: a statement with one field that is wrong, wherever it stands.
func TestWrongStatements(t *testing.T) {
	numbers := func(l ...int) []int { return l }
	all := numbers(readNo, ifNo, varNo, setNo, storeNo, newNo, whileNo, printNo, callNo, returnNo, emptyNo)
	without := func(l ...int) []int {
		return slices.DeleteFunc(slices.Clone(all), func(no int) bool { return slices.Contains(l, no) })
	}
	change := func(list []int, do func(s *api.Stmt)) {
		t.Helper()
		for _, no := range list {
			wrong(t, changedStmt(t, no, do))
		}
	}
	for _, n := range []int{math.MinInt, -1, 0, 11, 1 << 32, math.MaxInt} {
		change(all, func(s *api.Stmt) { s.Kind = n })
	}
	for _, s := range []string{"", "1", "while", "a-b", "abcdefghijklmnopq"} {
		change(numbers(readNo, varNo, setNo, storeNo, newNo), func(x *api.Stmt) { x.Name = s })
		change(numbers(callNo), func(x *api.Stmt) { x.Callee = s })
		if s != "" {
			change(all, func(x *api.Stmt) { x.Name = s })
		}
	}
	change(numbers(ifNo, whileNo, printNo, returnNo, emptyNo), func(s *api.Stmt) { s.Name = "x" })
	change(without(callNo), func(s *api.Stmt) { s.Callee = "f" })
	change(without(varNo), func(s *api.Stmt) { s.Type = api.Int })
	for _, n := range []int{math.MinInt, -1, 0, 4, 1<<32 + 1, math.MaxInt} {
		change(numbers(varNo), func(s *api.Stmt) { s.Type = n })
	}
	change(numbers(ifNo, setNo, storeNo, newNo, whileNo, printNo, emptyNo), func(s *api.Stmt) { s.Args = nil })
	change(numbers(readNo), func(s *api.Stmt) { s.Args = condition })
	change(without(storeNo, callNo), func(s *api.Stmt) { s.Args = slices.Repeat(condition, 2) })
	change(numbers(storeNo), func(s *api.Stmt) { s.Args = condition })
	change(without(callNo), func(s *api.Stmt) { s.Args = slices.Repeat(condition, 3) })
	change(all, func(s *api.Stmt) { s.Args = slices.Repeat(condition, 9) })
}

// P9.1 to P9.5: only an SIf and an SWhile have a Body, and only an SIf has an Else, even if all numbers are right.
func TestWrongBlocks(t *testing.T) {
	two := slices.Repeat(condition, 2)
	for _, s := range []api.Stmt{
		{Kind: api.SVar, Name: "x", Type: api.Int},
		{Kind: api.SSet, Name: "x", Args: condition},
		{Kind: api.SStore, Name: "x", Args: two},
		{Kind: api.SNew, Name: "x", Args: condition},
		{Kind: api.SRead, Name: "x"},
		{Kind: api.SPrint, Args: condition},
		{Kind: api.SCall, Callee: "f", Args: two},
		{Kind: api.SReturn},
		{Kind: api.SWhile, Args: condition},
	} {
		matches(t, built(s, read()))
		matches(t, built(loop(s), read()))
		blocks := [][2][]api.Stmt{{nil, row(1)}, {row(1), row(2)}}
		if s.Kind != api.SWhile {
			blocks = append(blocks, [2][]api.Stmt{row(1), nil})
		}
		for _, b := range blocks {
			s.Body, s.Else = b[0], b[1]
			wrong(t, built(s, read()))
			wrong(t, built(loop(s), read()))
			wrong(t, built(branch(nil, block(read(), s))))
		}
	}
}

// P9.1 to P9.5: an expression that is wrong, wherever it stands.
func TestWrongExpressions(t *testing.T) {
	a := condition[0]
	deep := a
	for range 20 {
		deep = api.Expr{Kind: api.EIndex, Name: "b", Args: []api.Expr{deep}}
	}
	for _, e := range []api.Expr{
		{},
		{Kind: -1},
		{Kind: 8},
		{Kind: api.ENum, Num: -1},
		{Kind: api.ENum, Op: api.Add},
		{Kind: api.ENum, Name: "a"},
		{Kind: api.ENum, Args: condition},
		{Kind: api.EBool, Num: 2},
		{Kind: api.EVar},
		{Kind: api.EVar, Name: "if"},
		{Kind: api.EVar, Name: "a", Num: 1},
		{Kind: api.ELen},
		{Kind: api.EUnary, Op: api.Add, Args: condition},
		{Kind: api.EUnary, Op: api.Not},
		{Kind: api.EBinary, Op: api.Not, Args: []api.Expr{a, a}},
		{Kind: api.EBinary, Op: api.Add, Args: condition},
		{Kind: api.EIndex, Name: "b"},
		{Kind: api.EIndex, Args: condition},
		deep,
	} {
		for _, no := range []int{ifNo, setNo, storeNo, newNo, whileNo, printNo, callNo, returnNo, emptyNo} {
			wrong(t, changedStmt(t, no, func(s *api.Stmt) { s.Args[len(s.Args)-1] = e }))
			wrong(t, changedStmt(t, no, func(s *api.Stmt) {
				s.Args[0] = api.Expr{Kind: api.EUnary, Op: api.Minus, Args: []api.Expr{e}}
			}))
		}
	}
}

// P9.1 to P9.5, with P1: what has itself as a part has not the right shape, and all functions end.
func TestPartsOfThemselves(t *testing.T) {
	for _, s := range []api.Stmt{loop(), branch(nil, nil)} {
		l := block(read(), s)
		l[1].No = 1
		l[1].Body = l
		wrong(t, api.Func{Name: "f", Body: l, Count: 2})
		l = block(branch(nil, nil))
		l[0].Else = l
		wrong(t, api.Func{Name: "f", Body: l, Count: 1})
	}
	args := []api.Expr{{Kind: api.EUnary, Op: api.Not}}
	args[0].Args = args
	wrong(t, api.Func{Name: "f", Body: block(api.Stmt{Kind: api.SPrint, Args: args}), Count: 1})
}

// P9.3: the order of the errors: the shape first, then the number, then the kind of the statement.
func TestOrderOfErrors(t *testing.T) {
	f := function(t, "(a int, b array) int", everything)
	for _, no := range []int{-1, 12, 13, math.MinInt, math.MaxInt} {
		fails(t, f, no, api.ErrRange)
	}
	for _, no := range []int{readNo, varNo, setNo, storeNo, newNo, printNo, callNo, returnNo} {
		noEnter(t, f, no)
	}
	enter(t, f, ifNo, 2, 9)
	enter(t, f, whileNo, 7, 11)
	enter(t, f, emptyNo, 11, 12)
	f.Count++
	wrong(t, f)
}
