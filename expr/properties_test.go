package expr_test

import (
	"math/rand/v2"
	"slices"
	"strconv"
	"testing"

	"rewind/api"
	"rewind/expr"
	"rewind/lexeme"
	"rewind/shape"
)

// signOf returns the sign of an operator with two operands.
func signOf(op int) string {
	for s, x := range ranks {
		if x[0] == op {
			return s
		}
	}
	return ""
}

// written returns the tokens of an expression with the right shape, with all operands that are EUnary or EBinary in parentheses.
func written(e api.Expr) []lexeme.Token {
	operand := func(e api.Expr) []lexeme.Token {
		if e.Kind == api.EUnary || e.Kind == api.EBinary {
			return slices.Concat(list(sign("(")), written(e), list(sign(")")))
		}
		return written(e)
	}
	switch e.Kind {
	case api.ENum:
		return list(number(strconv.FormatInt(e.Num, 10)))
	case api.EBool:
		return list(keyword([]string{"false", "true"}[e.Num]))
	case api.EVar:
		return list(name(e.Name))
	case api.ELen:
		return list(keyword("len"), sign("("), name(e.Name), sign(")"))
	case api.EIndex:
		return slices.Concat(list(name(e.Name), sign("[")), written(e.Args[0]), list(sign("]")))
	case api.EUnary:
		return append(list(sign([]string{"-", "!"}[e.Op-api.Minus])), operand(e.Args[0])...)
	}
	return slices.Concat(operand(e.Args[0]), list(sign(signOf(e.Op))), operand(e.Args[1]))
}

// randomExpr returns an expression with the right shape, and at most this depth.
func randomExpr(r *rand.Rand, depth int) api.Expr {
	s := []string{"a", "x", "Len", "a_1", "abcdefghijklmnop"}[r.IntN(5)]
	kind := 1 + r.IntN(7)
	if depth == 1 && (kind == api.EUnary || kind == api.EBinary || kind == api.EIndex) {
		kind = api.ENum
	}
	switch kind {
	case api.ENum:
		return num(r.Int64() >> r.IntN(63))
	case api.EBool:
		return truth(r.Int64N(2))
	case api.EVar:
		return variable(s)
	case api.EUnary:
		return api.Expr{Kind: api.EUnary, Op: api.Minus + r.IntN(2), Args: exprs(randomExpr(r, depth-1))}
	case api.EBinary:
		return api.Expr{Kind: api.EBinary, Op: api.Add + r.IntN(13), Args: exprs(randomExpr(r, depth-1), randomExpr(r, depth-1))}
	case api.EIndex:
		return index(s, randomExpr(r, depth-1))
	}
	return length(s)
}

// deeper returns an expression that is one deeper.
func deeper(r *rand.Rand, e api.Expr) api.Expr {
	op := api.Add + r.IntN(13)
	switch r.IntN(5) {
	case 0:
		return minus(e)
	case 1:
		return not(e)
	case 2:
		return index("a", e)
	case 3:
		return api.Expr{Kind: api.EBinary, Op: op, Args: exprs(e, b)}
	}
	return api.Expr{Kind: api.EBinary, Op: op, Args: exprs(b, e)}
}

// randomExprs returns expressions of all depths.
func randomExprs() []api.Expr {
	var l []api.Expr
	r := rand.New(rand.NewPCG(4, 4))
	for range 2000 {
		e := randomExpr(r, 1+r.IntN(12))
		l = append(l, e)
		for depth := 1 + r.IntN(20); shape.Depth(e) < depth; {
			e = deeper(r, e)
		}
		l = append(l, e)
	}
	for op := range 2 {
		e := a
		for range 20 {
			l = append(l, e)
			e = api.Expr{Kind: api.EUnary, Op: api.Minus + op, Args: exprs(e)}
		}
	}
	return l
}

// P5.4: with all operands that are EUnary or EBinary in parentheses, an expression is parsed as itself.
func TestParentheses(t *testing.T) {
	depths := map[int]int{}
	for _, e := range randomExprs() {
		l := written(e)
		parsedAt(t, l, 0, 0, e, len(l))
		depths[shape.Depth(e)]++
	}
	for depth := 1; depth <= 20; depth++ {
		if depths[depth] < 20 {
			t.Errorf("only %d expressions have the depth %d", depths[depth], depth)
		}
	}
	for op := api.Add; op <= api.Or; op++ {
		for other := api.Add; other <= api.Or; other++ {
			inner := api.Expr{Kind: api.EBinary, Op: op, Args: exprs(a, b)}
			for _, e := range exprs(
				api.Expr{Kind: api.EBinary, Op: other, Args: exprs(inner, c)},
				api.Expr{Kind: api.EBinary, Op: other, Args: exprs(c, inner)},
				api.Expr{Kind: api.EBinary, Op: other, Args: exprs(inner, inner)}) {
				l := written(e)
				parsedAt(t, l, 0, 0, e, len(l))
			}
		}
	}
}

// P5.4: an expression in parentheses is the same expression.
func TestInParentheses(t *testing.T) {
	for seed := range uint64(3000) {
		l := randomTokens(rand.New(rand.NewPCG(seed, 5)))
		e, end, err := expr.Parse(l, 0, 1)
		if err != api.OK {
			continue
		}
		inner := slices.Concat(list(sign("(")), l[:end], list(sign(")")))
		parsedAt(t, inner, 0, 0, e, len(inner))
		parsedAt(t, append(inner, sign("]")), 0, 0, e, len(inner))
	}
}

// P5.5: tokens behind the expression do not matter, apart from the first one, which is no operator with two operands, and no [ behind a name.
func TestWhatFollows(t *testing.T) {
	var tails [][]lexeme.Token
	for _, x := range append(foreign(), list(name("a"), number("5"), keyword("true"), keyword("len"), keyword("func"), sign("("), sign(")"), sign("]"), sign("!"), sign(","), sign(";"), sign("="), sign("{"))...) {
		tails = append(tails, list(x), list(x, sign("+"), name("a")), list(x, sign(")")), append(list(x), slices.Repeat(list(sign("(")), 50)...))
	}
	right := 0
	for seed := range uint64(1500) {
		r := rand.New(rand.NewPCG(seed, 6))
		l := randomTokens(r)
		if r.IntN(2) == 0 {
			l = written(randomExpr(r, 4))
		}
		e, end, err := expr.Parse(l, 0, 0)
		if err != api.OK {
			continue
		}
		right++
		parsedAt(t, l[:end], 0, 0, e, end)
		for range 5 {
			parsedAt(t, append(l[:end:end], tails[r.IntN(len(tails))]...), 0, 0, e, end)
		}
		if end < len(l) && l[end].Kind == lexeme.Sign && (ranks[l[end].Text][1] > 0 || l[end].Text == "[" && l[end-1].Kind == lexeme.Name) {
			t.Errorf("Parse(%s) ends at %d", show(l), end)
		}
		for s := range ranks {
			wrongOrLonger(t, append(l[:end:end], sign(s)), end+1)
			wrongOrLonger(t, append(l[:end:end], sign(s), sign(")")), end+1)
		}
		bracket := append(l[:end:end], sign("["))
		if l[end-1].Kind == lexeme.Name {
			wrongOrLonger(t, bracket, end+1)
		} else {
			parsedAt(t, bracket, 0, 0, e, end)
		}
	}
	if right < 500 {
		t.Errorf("only %d lists begin with an expression", right)
	}
}

// wrongOrLonger reports an error if Parse does not read what stands behind an expression: it has to miss an operand at this index, or to find that the expression is too deep.
func wrongOrLonger(t *testing.T, l []lexeme.Token, end int) {
	t.Helper()
	e, got, err := expr.Parse(l, 0, 0)
	if !same(e, api.Expr{}) || !(err == api.ErrForm && got == end || err == api.ErrDeep && got < end) {
		t.Errorf("Parse(%s) = %v, %d, %d; want ErrForm at %d", show(l), e, got, err, end)
	}
}

// P5.6: each expression that is returned has the right shape.
func TestRightShape(t *testing.T) {
	depths := map[int]int{}
	for seed := range uint64(10000) {
		l := randomTokens(rand.New(rand.NewPCG(seed, 7)))
		if e, _, err := expr.Parse(l, 0, 0); err == api.OK {
			depths[shape.Depth(e)]++
		}
		all, _, _ := expr.List(slices.Concat(list(sign("(")), l, list(sign(")"))), 0, 0)
		for _, e := range all {
			if shape.Expr(e) != api.OK {
				t.Errorf("%s: %v", show(l), e)
			}
		}
	}
	if depths[0] > 0 {
		t.Errorf("%d expressions do not have the right shape", depths[0])
	}
	if depths[20] < 20 || depths[1] < 20 {
		t.Errorf("expressions have the depths %v", depths)
	}
}
