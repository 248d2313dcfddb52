package printer_test

import (
	"fmt"
	"math/rand/v2"
	"slices"
	"strings"
	"testing"

	"rewind/api"
	"rewind/printer"
)

// The definitions of the chapter once more, in another way: the lines of a block are those of its statements with a tab ahead of each, and the numbers of a list are counted. What the package returns has to be what they say.

// words are the words of the types.
var words = []string{"", "int", "bool", "array"}

// definedExpr returns the text of an expression.
func definedExpr(e api.Expr) string {
	switch e.Kind {
	case api.ENum:
		return fmt.Sprint(e.Num)
	case api.EBool:
		return fmt.Sprint(e.Num != 0)
	case api.EVar:
		return e.Name
	case api.ELen:
		return fmt.Sprintf("len(%s)", e.Name)
	case api.EIndex:
		return fmt.Sprintf("%s[%s]", e.Name, definedExpr(e.Args[0]))
	}
	sign := strings.Fields("none + - * / % == != < <= > >= && || - !")[e.Op]
	operands := strings.Split(definedList(e.Args, "\x00"), "\x00")
	for i, x := range e.Args {
		if len(x.Args) > 0 && x.Kind != api.EIndex {
			operands[i] = "(" + operands[i] + ")"
		}
	}
	if len(operands) == 1 {
		return sign + operands[0]
	}
	return operands[0] + " " + sign + " " + operands[1]
}

// definedList returns the texts of expressions with something between two of them.
func definedList(l []api.Expr, between string) string {
	var all []string
	for _, e := range l {
		all = append(all, definedExpr(e))
	}
	return strings.Join(all, between)
}

// definedHead returns the head of a statement.
func definedHead(s api.Stmt) string {
	value := definedList(s.Args, ", ")
	switch s.Kind {
	case api.SVar:
		return strings.TrimSuffix(fmt.Sprintf("var %s %s = %s", s.Name, words[s.Type], value), " = ") + ";"
	case api.SSet:
		return fmt.Sprintf("%s = %s;", s.Name, value)
	case api.SStore:
		return fmt.Sprintf("%s[%s] = %s;", s.Name, definedExpr(s.Args[0]), definedExpr(s.Args[1]))
	case api.SNew:
		return fmt.Sprintf("%s = new %s;", s.Name, value)
	case api.SRead:
		return fmt.Sprintf("read %s;", s.Name)
	case api.SPrint:
		return fmt.Sprintf("print %s;", value)
	case api.SCall:
		return strings.TrimPrefix(fmt.Sprintf("%s = %s(%s);", s.Name, s.Callee, value), " = ")
	case api.SReturn:
		return strings.TrimSuffix("return "+value, " ") + ";"
	case api.SIf:
		return "if " + value
	}
	return "while " + value
}

// definedBlock returns the lines of statements, without the tabs of the block itself; a head has a mark ahead of it.
func definedBlock(l []api.Stmt) []string {
	var lines []string
	deeper := func(l []api.Stmt) {
		for _, line := range definedBlock(l) {
			lines = append(lines, "\t"+line)
		}
	}
	for _, s := range l {
		if s.Kind < api.SIf {
			lines = append(lines, "@"+definedHead(s))
			continue
		}
		lines = append(lines, "@"+definedHead(s)+" {")
		deeper(s.Body)
		if len(s.Else) > 0 {
			lines = append(lines, "} else {")
			deeper(s.Else)
		}
		lines = append(lines, "}")
	}
	return lines
}

// definedLines returns the lines of a function; a head has a mark ahead of it.
func definedLines(f api.Func) []string {
	var l []string
	for _, p := range f.Params {
		l = append(l, p.Name+" "+words[p.Type])
	}
	first := fmt.Sprintf("func %s(%s) %s {", f.Name, strings.Join(l, ", "), words[f.Result])
	lines := []string{strings.ReplaceAll(first, "  ", " ")}
	for _, line := range definedBlock(f.Body) {
		lines = append(lines, "\t"+line)
	}
	return append(lines, "}")
}

// definedFunc returns the text of a function.
func definedFunc(f api.Func) string {
	return strings.ReplaceAll(strings.Join(definedLines(f), "\n")+"\n", "@", "")
}

// definedFuncList returns the list of a function.
func definedFuncList(f api.Func) string {
	var s string
	no := 0
	for _, line := range definedLines(f) {
		if before, after, ok := strings.Cut(line, "@"); ok {
			s += fmt.Sprintf("%3d ", no) + before + after + "\n"
			no++
			continue
		}
		s += "    " + line + "\n"
	}
	return s
}

// randomName returns a name.
func randomName(r *rand.Rand) string {
	return []string{"a", "x", "y", "Len", "N", "a_1", "b2", long}[r.IntN(8)]
}

// randomExpr returns an expression with at most this depth.
func randomExpr(r *rand.Rand, depth int) api.Expr {
	switch kind := 1 + r.IntN(9); {
	case kind == api.EBool:
		return truth(r.Int64N(2))
	case kind == api.EVar:
		return variable(randomName(r))
	case kind == api.ELen:
		return length(randomName(r))
	case depth == 1 || kind == api.ENum:
		return num(r.Int64() >> r.IntN(63))
	case kind == api.EIndex:
		return index(randomName(r), randomExpr(r, depth-1))
	case kind == api.EUnary:
		return unary(14+r.IntN(2), randomExpr(r, depth-1))
	}
	return binary(1+r.IntN(13), randomExpr(r, depth-1), randomExpr(r, depth-1))
}

// randomBlock returns statements with a height of at most this one, possibly none.
func randomBlock(r *rand.Rand, height int) []api.Stmt {
	if height == 0 {
		return nil
	}
	var l []api.Stmt
	for range r.IntN(4) {
		l = append(l, randomStmt(r, height))
	}
	return l
}

// randomStmt returns a statement with a height of at most this one.
func randomStmt(r *rand.Rand, height int) api.Stmt {
	several := func(n int) []api.Expr {
		var l []api.Expr
		for range n {
			l = append(l, randomExpr(r, 1+r.IntN(3)))
		}
		return l
	}
	e, x := randomExpr(r, 1+r.IntN(4)), randomName(r)
	switch 1 + r.IntN(12) {
	case api.SVar:
		return declare(x, 1+r.IntN(3), several(r.IntN(2))...)
	case api.SSet:
		return set(x, e)
	case api.SStore:
		return store(x, randomExpr(r, 2), e)
	case api.SNew:
		return create(x, e)
	case api.SRead:
		return read(x)
	case api.SPrint:
		return show(e)
	case api.SCall:
		return call([]string{"", "", "x", "z"}[r.IntN(4)], x, several(r.IntN(9))...)
	case api.SReturn:
		return give(several(r.IntN(2))...)
	case api.SIf, 11:
		return branch(e, randomBlock(r, height-1), randomBlock(r, height-1))
	}
	return loop(e, randomBlock(r, height-1)...)
}

// randomFunc returns a function with the right shape.
func randomFunc(r *rand.Rand) api.Func {
	var l []api.Param
	for range r.IntN(r.IntN(9) + 1) {
		l = append(l, api.Param{Name: randomName(r), Type: 1 + r.IntN(3)})
	}
	var body []api.Stmt
	for range r.IntN(1 + r.IntN(1+r.IntN(60))) {
		body = append(body, randomBlock(r, 1+r.IntN(4))...)
	}
	f := function(randomName(r), l, r.IntN(4), body...)
	if f.Count > 200 {
		return randomFunc(r)
	}
	return f
}

// randomProgram returns a program with the right shape and at most so many functions.
func randomProgram(r *rand.Rand, most int) api.Program {
	var p api.Program
	for range r.IntN(most + 1) {
		p.Funcs = append(p.Funcs, randomFunc(r))
	}
	return p
}

// random returns a source of numbers that are always the same.
func random(seed, sort uint64) *rand.Rand { return rand.New(rand.NewPCG(seed, sort)) }

// P8.1: random expressions.
func TestRandomExpressions(t *testing.T) {
	for seed := range uint64(5000) {
		r := random(seed, 1)
		e := randomExpr(r, 1+r.IntN(8))
		expression(t, e, definedExpr(e))
	}
}

// P8.1: random statements of all kinds.
func TestRandomStatements(t *testing.T) {
	kinds := map[int]int{}
	for seed := range uint64(5000) {
		s := randomStmt(random(seed, 2), 3)
		kinds[s.Kind]++
		head(t, s, definedHead(s))
	}
	for kind := api.SVar; kind <= api.SWhile; kind++ {
		if kinds[kind] < 300 {
			t.Errorf("only %d statements are of the kind %d", kinds[kind], kind)
		}
	}
}

// P8.2 and P8.3: random functions.
func TestRandomFunctions(t *testing.T) {
	for seed := range uint64(2000) {
		f := randomFunc(random(seed, 3))
		got, e := printer.Func(f)
		answer(t, f, got, e, definedFunc(f), api.OK)
		got, e = printer.List(f)
		answer(t, f, got, e, definedFuncList(f), api.OK)
	}
}

// P8.3: random programs.
func TestRandomPrograms(t *testing.T) {
	for seed := range uint64(1000) {
		p := randomProgram(random(seed, 4), 20)
		var l []string
		for _, f := range p.Funcs {
			l = append(l, definedFunc(f))
		}
		got, e := printer.Program(p)
		answer(t, p, got, e, strings.Join(l, "\n"), api.OK)
	}
}

// P8.1: all expressions up to the depth 3 of a few parts.
func TestAllSmallExpressions(t *testing.T) {
	l := exprs(num(0), truth(1), a, length("b"))
	for range 2 {
		next := slices.Clone(l[:4])
		for i, x := range l {
			next = append(next, minus(x), not(x), index("c", x))
			for k, y := range l {
				if (i+k)%5 == 0 || i < 8 {
					next = append(next, binary(1+(3*i+k)%13, x, y))
				}
			}
		}
		l = next
		for _, e := range l {
			expression(t, e, definedExpr(e))
		}
	}
}
