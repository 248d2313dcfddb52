package shape_test

import (
	"fmt"
	"math"
	"slices"
	"strings"
	"testing"

	"rewind/api"
	"rewind/shape"
)

// words are the keywords.
var words = strings.Fields("func var if else while return print read new len int bool array true false")

// long is a name with as many bytes as a name may have.
const long = "abcdefghijklmnop"

// Short ways to write expressions and statements:

func num(n int64) api.Expr          { return api.Expr{Kind: api.ENum, Num: n} }
func truth(n int64) api.Expr        { return api.Expr{Kind: api.EBool, Num: n} }
func variable(name string) api.Expr { return api.Expr{Kind: api.EVar, Name: name} }
func length(name string) api.Expr   { return api.Expr{Kind: api.ELen, Name: name} }
func index(name string, i api.Expr) api.Expr {
	return api.Expr{Kind: api.EIndex, Name: name, Args: list(i)}
}
func unary(op int, a api.Expr) api.Expr { return api.Expr{Kind: api.EUnary, Op: op, Args: list(a)} }
func binary(op int, a, b api.Expr) api.Expr {
	return api.Expr{Kind: api.EBinary, Op: op, Args: list(a, b)}
}
func list(l ...api.Expr) []api.Expr  { return l }
func block(l ...api.Stmt) []api.Stmt { return l }
func show(e api.Expr) api.Stmt       { return api.Stmt{Kind: api.SPrint, Args: list(e)} }
func branch(body, other []api.Stmt) api.Stmt {
	return api.Stmt{Kind: api.SIf, Args: list(truth(1)), Body: body, Else: other}
}
func loop(body ...api.Stmt) api.Stmt {
	return api.Stmt{Kind: api.SWhile, Args: list(truth(1)), Body: body}
}

// function returns a function with these statements, whose numbers are right if they are.
func function(body ...api.Stmt) api.Func { return api.Func{Name: "f", Body: body, Count: size(body)} }

// program returns a program with these functions.
func program(l ...api.Func) api.Program { return api.Program{Funcs: l} }

// size returns how many statements there are, nested ones included.
func size(l []api.Stmt) int {
	n := len(l)
	for _, s := range l {
		n += size(s.Body) + size(s.Else)
	}
	return n
}

// set writes the numbers of statements from a number on, and returns the one behind them.
func set(l []api.Stmt, from int) int {
	for i := range l {
		l[i].No = from
		from = set(l[i].Else, set(l[i].Body, from+1))
	}
	return from
}

// right returns a function with these statements and right numbers.
func right(body ...api.Stmt) api.Func {
	set(body, 0)
	return function(body...)
}

// same compares programs, functions, statements and expressions, with nil slices as empty ones and with their numbers.
func same(a, b any) bool { return fmt.Sprintf("%+v", a) == fmt.Sprintf("%+v", b) }

// chain returns an expression of a depth, whose operators stand around the one before them in different ways.
func chain(depth int) api.Expr {
	e := num(7)
	for i := range depth - 1 {
		switch i % 5 {
		case 0:
			e = unary(api.Minus, e)
		case 1:
			e = binary(api.Sub, e, num(1))
		case 2:
			e = index("a", e)
		case 3:
			e = binary(api.Or, length("a"), e)
		case 4:
			e = unary(api.Not, e)
		}
	}
	return e
}

// tower returns blocks that are nested: its height is the number of the statements.
func tower(height int) []api.Stmt {
	l := block(show(num(1)))
	for i := range height - 1 {
		switch i % 3 {
		case 0:
			l = block(loop(l...))
		case 1:
			l = block(branch(l, nil))
		case 2:
			l = block(branch(nil, l))
		}
	}
	return l
}

// row returns statements that stand one behind the other.
func row(n int) []api.Stmt {
	var l []api.Stmt
	for range n {
		l = append(l, show(num(1)))
	}
	return l
}

// params returns parameters.
func params(n int) []api.Param {
	var l []api.Param
	for i := range n {
		l = append(l, api.Param{Name: "p", Type: api.Int + i%3})
	}
	return l
}

// errno returns the error code for what is right, or wrong.
func errno(right bool) api.Errno {
	if right {
		return api.OK
	}
	return api.ErrArg
}

// P3.1
func TestName(t *testing.T) {
	for _, s := range []string{"x", "a_1", "Len", "A", "Z", "z", "a", "x_", "x__", "a0", "a9", "A_B_C", "e1e", long, "Z123456789_12345", "main", "None"} {
		if !shape.Name(s) {
			t.Errorf("%q is a name", s)
		}
	}
	for _, s := range []string{
		"", "1a", "_a", "_", "1", "a-b", "a b", " a", "a ", "a\n", "a\x00", "\x00", "a.b", "a$", "$a", "-a", "+",
		"\u00e4", "a\u00e4", "\u0391", "a\u0663", "\uff41", "a\xff", "\xffa", "a\u0301",
		long + "q", "a" + strings.Repeat("_", 16), strings.Repeat("b", 1<<20),
	} {
		if shape.Name(s) {
			t.Errorf("%q is no name", s)
		}
	}
}

// P3.1: what only has a keyword in it is a name.
func TestKeywordsAreNoNames(t *testing.T) {
	for _, s := range words {
		if shape.Name(s) {
			t.Errorf("%q is a keyword", s)
		}
		for _, other := range []string{s + "s", s + "_", s + "1", "x" + s, strings.ToUpper(s), strings.ToUpper(s[:1]) + s[1:], s[:len(s)-1], s + s} {
			if !slices.Contains(words, other) && !shape.Name(other) {
				t.Errorf("%q is a name", other)
			}
		}
	}
}

// P3.1: a name has 1 to 16 bytes.
func TestLengthsOfNames(t *testing.T) {
	for n := range 40 {
		if s := strings.Repeat("k", n); shape.Name(s) != (1 <= n && n <= 16) {
			t.Errorf("Name of %d letters is %v", n, shape.Name(s))
		}
	}
}

// P3.1: each byte, as the first one of a name and as another one.
func TestBytesOfNames(t *testing.T) {
	const letters = "ABCDEFGHIJKLMNOPQRSTUVWXYZabcdefghijklmnopqrstuvwxyz"
	for c := range 256 {
		b := string([]byte{byte(c)})
		first := strings.Contains(letters, b)
		other := first || strings.Contains("0123456789_", b)
		for s, want := range map[string]bool{b: first, b + "q": first, "q" + b: other, "q" + b + "q": other, long[:15] + b: other} {
			if shape.Name(s) != want {
				t.Errorf("Name(%q) is %v", s, !want)
			}
		}
	}
}

// fields reports whether the fields of an expression are as the chapter's table says.
func fields(e api.Expr) bool {
	name, args := shape.Name(e.Name), len(e.Args)
	switch e.Kind {
	case 1:
		return e.Num >= 0 && e.Op == 0 && e.Name == "" && args == 0
	case 2:
		return (e.Num == 0 || e.Num == 1) && e.Op == 0 && e.Name == "" && args == 0
	case 3, 7:
		return name && e.Op == 0 && e.Num == 0 && args == 0
	case 4:
		return (e.Op == 14 || e.Op == 15) && args == 1 && e.Num == 0 && e.Name == ""
	case 5:
		return e.Op >= 1 && e.Op <= 13 && args == 2 && e.Num == 0 && e.Name == ""
	case 6:
		return name && args == 1 && e.Op == 0 && e.Num == 0
	}
	return false
}

// P3.2: expressions of all kinds, with fields that have to be there or must not be there.
func TestFieldsOfExpressions(t *testing.T) {
	kinds, ops := []int{math.MinInt, math.MaxInt, 1 << 32, 1<<32 + 1}, []int{math.MinInt, math.MaxInt, 1 << 32, 1<<32 + 1}
	for n := -2; n <= 20; n++ {
		kinds, ops = append(kinds, n), append(ops, n)
	}
	args := [][]api.Expr{nil, {}, list(num(1)), list(num(1), num(2)), list(num(1), num(2), num(3))}
	accepted := 0
	for _, kind := range kinds {
		for _, op := range ops {
			for _, n := range []int64{math.MinInt64, -1, 0, 1, 2, 1 << 32, math.MaxInt64} {
				for _, name := range []string{"", "x", long, long + "q", "len", "1"} {
					for _, l := range args {
						e := api.Expr{Kind: kind, Op: op, Num: n, Name: name, Args: l}
						want := fields(e)
						if got := shape.Expr(e); got != errno(want) {
							t.Fatalf("Expr(%+v) = %d", e, got)
						}
						if want {
							accepted++
						}
					}
				}
			}
		}
	}
	// With no Args (nil or empty): 5 numbers, 2 truth values, 2 names of variables and of lengths; and 2, 13 and 2 with Args.
	if want := 2*(5+2+2+2) + 2 + 13 + 2; accepted != want {
		t.Errorf("%d expressions are accepted, not %d", accepted, want)
	}
}

// wrongs returns expressions that do not have the right shape.
func wrongs() []api.Expr {
	return list(
		api.Expr{}, num(-5), truth(2), truth(-1), variable(""), variable("if"), length(""), length("9"),
		api.Expr{Kind: api.EVar, Name: "x", Num: 1}, api.Expr{Kind: api.ENum, Op: api.Add}, api.Expr{Kind: api.ENum, Args: list(num(1))},
		api.Expr{Kind: api.EUnary, Op: api.Minus}, api.Expr{Kind: api.EUnary, Op: api.Add, Args: list(num(1))},
		api.Expr{Kind: api.EBinary, Op: api.Add, Args: list(num(1))}, binary(api.Minus, num(1), num(2)), binary(0, num(1), num(2)),
		index("", num(1)), index(long+"q", num(1)), api.Expr{Kind: api.EIndex, Name: "a"}, api.Expr{Kind: 8}, api.Expr{Kind: -1}, chain(21),
	)
}

// P3.2 and P3.8: what is wrong anywhere in an expression makes it wrong.
func TestArgsOfExpressions(t *testing.T) {
	for _, wrong := range wrongs() {
		for _, e := range list(
			wrong, unary(api.Minus, wrong), unary(api.Not, wrong), binary(api.Add, wrong, num(1)), binary(api.Add, num(1), wrong), index("a", wrong),
			binary(api.Or, binary(api.And, num(1), num(2)), binary(api.Lt, num(3), unary(api.Minus, wrong))),
		) {
			if shape.Expr(e) != api.ErrArg || shape.Depth(e) != 0 || shape.SameExpr(e, e) {
				t.Errorf("%+v is wrong: %d, %d, %v", e, shape.Expr(e), shape.Depth(e), shape.SameExpr(e, e))
			}
			p := program(right(api.Stmt{Kind: api.SStore, Name: "a", Args: list(num(1), e)}))
			if shape.Check(p) != api.ErrArg || len(shape.Number(p).Funcs) != 0 {
				t.Errorf("a statement with %+v is wrong", e)
			}
		}
	}
}

// P3.2 and P3.4: the depth is that of the deepest of the Args, and at most 20.
func TestDepth(t *testing.T) {
	for n := 1; n <= 45; n++ {
		want := n
		if n > 20 {
			want = 0
		}
		if e := chain(n); shape.Depth(e) != want || shape.Expr(e) != errno(n <= 20) || shape.SameExpr(e, chain(n)) != (n <= 20) {
			t.Errorf("an expression with depth %d has %d (%d)", n, shape.Depth(e), shape.Expr(e))
		}
		p := program(right(show(chain(n))))
		if shape.Check(p) != errno(n <= 20) || (len(shape.Number(p).Funcs) == 1) != (n <= 20) {
			t.Errorf("a program with an expression of depth %d: %d", n, shape.Check(p))
		}
		for m := 1; m <= 25; m++ {
			want := max(n, m) + 1
			if want > 20 {
				want = 0
			}
			if got := shape.Depth(binary(api.Add, chain(n), chain(m))); got != want {
				t.Errorf("the depths %d and %d give %d", n, m, got)
			}
		}
	}
}

// P3.2 to P3.4: an expression of depth 20 may have operands wherever it can.
func TestFullExpressions(t *testing.T) {
	e := num(1)
	for depth := 1; depth <= 20; depth++ {
		if got := shape.Depth(e); got != depth {
			t.Errorf("Depth is %d, not %d", got, depth)
		}
		if depth == 19 && !shape.SameExpr(e, e) {
			t.Error("an expression is equal to itself")
		}
		e = binary(api.Mul, e, e)
	}
	if shape.Depth(e) != 0 || shape.Expr(e) != api.ErrArg {
		t.Error("the depth 21 is too great")
	}
}

// P3.8
func TestArgsHaveTheRightShapeAndASmallerDepth(t *testing.T) {
	r := random(1)
	for range 2000 {
		e := r.expr(1 + r.below(7))
		for _, arg := range e.Args {
			if shape.Expr(arg) != api.OK || shape.Depth(arg) >= shape.Depth(e) || shape.Depth(arg) < 1 {
				t.Fatalf("%+v has the Arg %+v", e, arg)
			}
		}
		if shape.Expr(e) != api.OK {
			t.Fatalf("%+v has the right shape", e)
		}
	}
}

// columns reports whether the fields of a statement with right Args are as the chapter's table says.
func columns(s api.Stmt) bool {
	name, callee, args := shape.Name(s.Name), shape.Name(s.Callee), len(s.Args)
	typed := s.Type == 1 || s.Type == 2 || s.Type == 3
	plain := s.Type == 0 && s.Callee == "" && len(s.Body) == 0 && len(s.Else) == 0
	switch s.Kind {
	case 1:
		return name && typed && args <= 1 && s.Callee == "" && len(s.Body) == 0 && len(s.Else) == 0
	case 2, 4:
		return plain && name && args == 1
	case 3:
		return plain && name && args == 2
	case 5:
		return plain && name && args == 0
	case 6:
		return plain && s.Name == "" && args == 1
	case 7:
		return callee && (name || s.Name == "") && args <= 8 && s.Type == 0 && len(s.Body) == 0 && len(s.Else) == 0
	case 8:
		return plain && s.Name == "" && args <= 1
	case 9:
		return s.Type == 0 && s.Callee == "" && s.Name == "" && args == 1
	case 10:
		return s.Type == 0 && s.Callee == "" && s.Name == "" && args == 1 && len(s.Else) == 0
	}
	return false
}

// P3.2, P3.3 and P3.5: statements of all kinds, with fields that have to be there or must not be there.
func TestFieldsOfStatements(t *testing.T) {
	blocks := [][]api.Stmt{nil, {}, row(1)}
	found := map[int]int{}
	for _, kind := range []int{math.MinInt, -1, 0, 1, 2, 3, 4, 5, 6, 7, 8, 9, 10, 11, 12, 1<<32 + 1, math.MaxInt} {
		for _, name := range []string{"", "x", "9"} {
			for _, typ := range []int{math.MinInt, -1, 0, 1, 2, 3, 4, math.MaxInt} {
				for _, callee := range []string{"", "f", "new"} {
					for _, args := range []int{0, 1, 2, 3, 8, 9} {
						for _, body := range blocks {
							for _, other := range blocks {
								s := api.Stmt{Kind: kind, Name: name, Type: typ, Callee: callee, Args: slices.Repeat(list(num(1)), args), Body: body, Else: other}
								found[kind] += statement(t, s, columns(s))
							}
						}
					}
				}
			}
		}
	}
	// There are four ways to have no statements in the blocks, six to have none in one of them and any in the other, nine to have any in both.
	for kind, want := range map[int]int{0: 0, 1: 3 * 2 * 4, 2: 4, 3: 4, 4: 4, 5: 4, 6: 4, 7: 2 * 5 * 4, 8: 2 * 4, 9: 9, 10: 6, 11: 0} {
		if found[kind] != want {
			t.Errorf("%d statements of the kind %d are accepted, not %d", found[kind], kind, want)
		}
	}
}

// statement looks at a statement alone, in a block, and in a program; it returns 1 for one that is right.
func statement(t *testing.T, s api.Stmt, want bool) int {
	t.Helper()
	if shape.SameStmt(s, s) != want || shape.SameStmt(branch(nil, block(s)), branch(nil, block(s))) != want {
		t.Fatalf("SameStmt(%+v) is %v", s, !want)
	}
	s.Body, s.Else = slices.Clone(s.Body), slices.Clone(s.Else)
	p := program(right(show(num(1)), s))
	nested := program(right(loop(s)))
	if shape.Check(p) != errno(want) || shape.Check(nested) != errno(want) {
		t.Fatalf("Check of %+v is %d, %d", s, shape.Check(p), shape.Check(nested))
	}
	if n := len(shape.Number(p).Funcs); n == 1 != want || shape.SameFunc(p.Funcs[0], p.Funcs[0]) != want {
		t.Fatalf("Number of %+v has %d functions", s, n)
	}
	if want {
		return 1
	}
	return 0
}

// P3.2, P3.3 and P3.5: all parts of a function that are no statements.
func TestFieldsOfFunctions(t *testing.T) {
	look := func(f api.Func, want bool) {
		t.Helper()
		if shape.Check(program(f)) != errno(want) || shape.SameFunc(f, f) != want || (len(shape.Number(program(f)).Funcs) == 1) != want {
			t.Errorf("%+v: %d, %v, %+v", f, shape.Check(program(f)), shape.SameFunc(f, f), shape.Number(program(f)))
		}
		if shape.Check(program(function(), f)) != errno(want) || shape.Check(program(f, function())) != errno(want) || shape.Same(program(f), program(f)) != want {
			t.Errorf("%+v: as one of two functions", f)
		}
	}
	for name, want := range map[string]bool{"": false, "f": true, "main": true, "1": false, "while": false, long: true, long + "q": false} {
		look(api.Func{Name: name}, want)
		look(api.Func{Name: "f", Params: []api.Param{{Name: "x", Type: api.Int}, {Name: name, Type: api.Bool}}}, want)
	}
	for _, n := range []int{math.MinInt, -1, 0, 1, 2, 3, 4, 5, 1 << 32, 1<<32 + 1, math.MaxInt} {
		look(api.Func{Name: "f", Result: n}, 0 <= n && n <= 3)
		look(api.Func{Name: "f", Params: []api.Param{{Name: "x", Type: n}}}, 1 <= n && n <= 3)
	}
	for n := range 20 {
		look(api.Func{Name: "f", Params: params(n)}, n <= 8)
	}
	look(api.Func{Name: "f", Params: []api.Param{}, Body: []api.Stmt{}}, true)
}

// P3.2 and P3.5: 20 functions, which may have the same name.
func TestNumberOfFunctions(t *testing.T) {
	for n := range 30 {
		p := program(slices.Repeat([]api.Func{function()}, n)...)
		if shape.Check(p) != errno(n <= 20) || shape.Same(p, p) != (n <= 20) {
			t.Errorf("a program with %d functions: %d, %v", n, shape.Check(p), shape.Same(p, p))
		}
		want := n
		if n > 20 {
			want = 0
		}
		if got := len(shape.Number(p).Funcs); got != want {
			t.Errorf("Number of %d functions has %d", n, got)
		}
	}
}

// P3.2, P3.3 and P3.5: what is wrong in one function of many, or in one statement of many.
func TestOneWrongAmongMany(t *testing.T) {
	for at := range 20 {
		p := program(slices.Repeat([]api.Func{function()}, 20)...)
		p.Funcs[at].Name = ""
		if shape.Check(p) != api.ErrArg || len(shape.Number(p).Funcs) != 0 || shape.Same(p, p) {
			t.Errorf("the function %d is wrong", at)
		}
	}
	for at := range 200 {
		f := right(row(200)...)
		f.Body[at].Args = nil
		if shape.Check(program(f)) != api.ErrArg || len(shape.Number(program(f)).Funcs) != 0 || shape.SameFunc(f, f) {
			t.Errorf("the statement %d is wrong", at)
		}
	}
}

// P3.2, P3.3 and P3.5: statements of a function are at most 200, wherever they stand.
func TestNumberOfStatements(t *testing.T) {
	for _, n := range []int{0, 1, 2, 198, 199, 200, 201, 202, 400, 5000} {
		for at, body := range [][]api.Stmt{
			row(n),
			append(block(loop(row(max(n-2, 0))...)), row(1)...),
			append(row(1), branch(row(max(n-2, 0)/2), row(max(n-2, 0)-max(n-2, 0)/2))),
			append(row(max(n-3, 0)), loop(branch(nil, row(1)))),
			append(row(max(n-150, 0)), wide(min(n, 150))...),
		} {
			f := right(body...)
			want := size(body) <= 200
			if shape.Check(program(f)) != errno(want) || shape.SameFunc(f, f) != want || (len(shape.Number(program(f)).Funcs) == 1) != want {
				t.Errorf("%d statements (%d): %d", size(body), at, shape.Check(program(f)))
			}
		}
		// The statement counts, besides those in its blocks.
		for _, s := range block(loop(row(n)...), branch(row(n), nil), branch(nil, row(n)), branch(row(n/2), row(n-n/2))) {
			if shape.SameStmt(s, s) != (n+1 <= 200) {
				t.Errorf("SameStmt of a statement with %d others is %v", n, n+1 > 200)
			}
		}
	}
}

// wide returns n statements in blocks of blocks.
func wide(n int) []api.Stmt {
	if n == 0 {
		return nil
	}
	left := (n - 1) / 3
	return append(block(branch(wide(left), wide(left))), wide(n-1-2*left)...)
}

// P3.2, P3.3 and P3.5: blocks with statements are nested at most 20 deep; whether one without statements is deeper does not matter.
func TestHeight(t *testing.T) {
	for n := 1; n <= 45; n++ {
		for at, body := range [][]api.Stmt{tower(n), append(row(2), tower(n)...), append(tower(n), tower(1)...), append(tower(1), tower(n)...)} {
			f := right(body...)
			want := n <= 20
			if shape.Check(program(f)) != errno(want) || shape.SameFunc(f, f) != want || (len(shape.Number(program(f)).Funcs) == 1) != want {
				t.Errorf("the height %d (%d): %d", n, at, shape.Check(program(f)))
			}
		}
		if s := tower(n)[0]; shape.SameStmt(s, tower(n)[0]) != (n <= 20) {
			t.Errorf("SameStmt of a statement with the height %d is %v", n, n > 20)
		}
	}
	// At the height 20 there are also an if and a while with blocks that have no statements.
	deepest := block(loop(), branch([]api.Stmt{}, []api.Stmt{}))
	for range 19 {
		deepest = block(loop(deepest...))
	}
	f := right(deepest...)
	if shape.Check(program(f)) != api.OK || !shape.SameFunc(f, f) {
		t.Error("blocks without statements have no height")
	}
}

// P1: what has itself as a part is wrong, and is not visited for ever.
func TestPartsOfThemselves(t *testing.T) {
	args := list(num(1), num(2))
	args[1] = api.Expr{Kind: api.EBinary, Op: api.Add, Args: args}
	twice := list(num(1), num(2))
	twice[0] = api.Expr{Kind: api.EBinary, Op: api.Add, Args: twice}
	twice[1] = twice[0]
	alone := list(num(1))
	alone[0] = unary(api.Minus, num(1))
	alone[0].Args = alone
	for _, e := range list(args[1], twice[0], alone[0]) {
		if shape.Expr(e) != api.ErrArg || shape.Depth(e) != 0 || shape.SameExpr(e, e) {
			t.Error("an expression that is one of its Args is wrong")
		}
		if f := function(show(e)); shape.Check(program(f)) != api.ErrArg || len(shape.Number(program(f)).Funcs) != 0 || shape.SameFunc(f, f) || shape.SameStmt(f.Body[0], f.Body[0]) {
			t.Error("a statement with it is wrong")
		}
	}
	body := block(loop(), show(num(1)))
	body[0].Body = body
	both := block(branch(nil, nil), branch(nil, nil))
	both[0].Body, both[0].Else, both[1].Body, both[1].Else = both, both, both, both
	for _, l := range [][]api.Stmt{body, both} {
		f := api.Func{Name: "f", Body: l, Count: 2}
		if shape.Check(program(f)) != api.ErrArg || len(shape.Number(program(f)).Funcs) != 0 || shape.SameFunc(f, f) || shape.Same(program(f), program(f)) || shape.SameStmt(l[0], l[0]) {
			t.Error("a statement that stands in its block is wrong")
		}
	}
}

// P3.1 to P3.5: the table of the chapter.
func TestExamplesOfTheChapter(t *testing.T) {
	for s, want := range map[string]bool{"x": true, "a_1": true, "Len": true, "": false, "1a": false, "_a": false, "len": false, "a-b": false, long + "q": false} {
		if shape.Name(s) != want {
			t.Errorf("Name(%q) is %v", s, !want)
		}
	}
	if e := shape.Expr(num(5)); e != api.OK {
		t.Error(e)
	}
	for _, x := range list(num(-5), truth(2), api.Expr{Kind: api.EVar, Name: "x", Num: 1}, api.Expr{Kind: api.EUnary, Op: api.Add, Args: list(num(1))}) {
		if e := shape.Expr(x); e != api.ErrArg {
			t.Errorf("Expr(%+v) = %d", x, e)
		}
	}
	for want, e := range map[int]api.Expr{1: num(1), 3: binary(api.Add, num(1), binary(api.Mul, num(2), num(3))), 0: {}} {
		if n := shape.Depth(e); n != want {
			t.Errorf("Depth(%+v) = %d", e, n)
		}
	}
	if e := shape.Check(api.Program{}); e != api.OK {
		t.Error(e)
	}
	second := program(api.Func{Name: "main", Body: row(2)})
	if e := shape.Check(second); e != api.ErrArg {
		t.Error(e)
	}
	f := shape.Number(second).Funcs[0]
	if len(f.Body) != 2 || f.Body[0].No != 0 || f.Body[1].No != 1 || f.Count != 2 {
		t.Errorf("%+v", f)
	}
	if !shape.SameStmt(show(variable("x")), api.Stmt{Kind: api.SPrint, No: 5, Args: list(variable("x"))}) {
		t.Error("numbers do not matter")
	}
}
