package stmt_test

import (
	"fmt"
	"math"
	"math/rand/v2"
	"slices"
	"strconv"
	"strings"
	"testing"

	"rewind/api"
	"rewind/expr"
	"rewind/lexeme"
	"rewind/shape"
	"rewind/stmt"
)

// writtenExpr returns the text of an expression with the right shape, with all operands that are EUnary or EBinary in parentheses.
func writtenExpr(e api.Expr) string {
	switch e.Kind {
	case api.ENum:
		return strconv.FormatInt(e.Num, 10)
	case api.EBool:
		return []string{"false", "true"}[e.Num]
	case api.EVar:
		return e.Name
	case api.ELen:
		return "len(" + e.Name + ")"
	case api.EIndex:
		return e.Name + "[" + writtenExpr(e.Args[0]) + "]"
	}
	var operands []string
	for _, x := range e.Args {
		s := writtenExpr(x)
		if x.Kind == api.EUnary || x.Kind == api.EBinary {
			s = "(" + s + ")"
		}
		operands = append(operands, s)
	}
	if e.Kind == api.EUnary {
		return expr.Sign(e.Op) + operands[0]
	}
	return operands[0] + " " + expr.Sign(e.Op) + " " + operands[1]
}

// writtenBlock returns the text of a block.
func writtenBlock(l []api.Stmt) string {
	text := "{ "
	for _, s := range l {
		text += written(s) + " "
	}
	return text + "}"
}

// written returns the text of a statement, as the chapter's table says.
func written(s api.Stmt) string {
	var args []string
	for _, e := range s.Args {
		args = append(args, writtenExpr(e))
	}
	switch s.Kind {
	case api.SVar:
		text := "var " + s.Name + " " + []string{"", "int", "bool", "array"}[s.Type]
		if len(args) > 0 {
			text += " = " + args[0]
		}
		return text + ";"
	case api.SSet:
		return s.Name + " = " + args[0] + ";"
	case api.SStore:
		return s.Name + "[" + args[0] + "] = " + args[1] + ";"
	case api.SNew:
		return s.Name + " = new " + args[0] + ";"
	case api.SRead:
		return "read " + s.Name + ";"
	case api.SPrint:
		return "print " + args[0] + ";"
	case api.SCall:
		text := s.Callee + "(" + strings.Join(args, ", ") + ");"
		if s.Name != "" {
			text = s.Name + " = " + text
		}
		return text
	case api.SReturn:
		return strings.TrimSpace("return "+strings.Join(args, "")) + ";"
	case api.SIf:
		text := "if " + args[0] + " " + writtenBlock(s.Body)
		if len(s.Else) > 0 {
			text += " else " + writtenBlock(s.Else)
		}
		return text
	}
	return "while " + args[0] + " " + writtenBlock(s.Body)
}

// randomExpr returns an expression with the right shape, and at most this depth.
func randomExpr(r *rand.Rand, depth int) api.Expr {
	s := []string{"a", "x", "Len", "a_1", "abcdefghijklmnop"}[r.IntN(5)]
	switch kind := 1 + r.IntN(7); {
	case kind == api.EBool:
		return api.Expr{Kind: kind, Num: r.Int64N(2)}
	case kind == api.EVar, kind == api.ELen:
		return api.Expr{Kind: kind, Name: s}
	case depth == 1 || kind == api.ENum:
		return num(r.Int64() >> r.IntN(63))
	case kind == api.EIndex:
		return api.Expr{Kind: kind, Name: s, Args: exprs(randomExpr(r, depth-1))}
	case kind == api.EUnary:
		return api.Expr{Kind: kind, Op: api.Minus + r.IntN(2), Args: exprs(randomExpr(r, depth-1))}
	}
	return api.Expr{Kind: api.EBinary, Op: api.Add + r.IntN(13), Args: exprs(randomExpr(r, depth-1), randomExpr(r, depth-1))}
}

// randomBlock returns statements of which one has blocks up to this height.
func randomBlock(r *rand.Rand, height int) []api.Stmt {
	if height == 0 {
		return nil
	}
	var l []api.Stmt
	for range r.IntN(3) {
		l = append(l, randomStmt(r, r.IntN(min(height, 2))))
	}
	return slices.Insert(l, r.IntN(len(l)+1), randomStmt(r, height-1))
}

// randomStmt returns a statement that has blocks up to this height.
func randomStmt(r *rand.Rand, height int) api.Stmt {
	e := func() api.Expr { return randomExpr(r, 1+r.IntN(4)) }
	several := func(n int) []api.Expr {
		var l []api.Expr
		for range n {
			l = append(l, e())
		}
		return l
	}
	x := []string{"x", "f", "Int", "y_2", "abcdefghijklmnop"}[r.IntN(5)]
	if height > 0 {
		switch r.IntN(3) {
		case 0:
			return loop(e(), randomBlock(r, height)...)
		case 1:
			return branch(e(), randomBlock(r, height), nil)
		}
		return branch(e(), randomBlock(r, r.IntN(min(height, 3))), randomBlock(r, height))
	}
	switch kind := 1 + r.IntN(10); kind {
	case api.SVar:
		return declare(x, 1+r.IntN(3), several(r.IntN(2))...)
	case api.SStore:
		return store(x, e(), e())
	case api.SRead:
		return read(x)
	case api.SCall:
		return call([]string{"", "x", "z"}[r.IntN(3)], x, several(r.IntN(9))...)
	case api.SReturn:
		return give(several(r.IntN(2))...)
	case api.SPrint:
		return print(e())
	case api.SIf:
		return branch(e(), nil, nil)
	case api.SWhile:
		return loop(e())
	default:
		return api.Stmt{Kind: kind, Name: x, Args: exprs(e())}
	}
}

// randomTokens returns the tokens of a random statement.
func randomTokens(t *testing.T, r *rand.Rand) []lexeme.Token {
	t.Helper()
	return tokens(t, written(randomStmt(r, r.IntN(r.IntN(10)+1))))
}

// P6.4: a statement that is written as the table says is parsed as this statement, whatever follows, but an else behind an if without one.
func TestAsWritten(t *testing.T) {
	kinds := map[int]int{}
	tails := append(some(), lexeme.Token{}, sign("+"), sign("=="), keyword("true"), keyword("x"))
	for seed := range uint64(3000) {
		r := rand.New(rand.NewPCG(seed, 3))
		s := randomStmt(r, r.IntN(r.IntN(8)+1))
		kinds[s.Kind]++
		l := tokens(t, written(s))
		parsedAt(t, l, 0, 1, s, len(l))
		blockAt(t, slices.Concat(list(sign("{")), l, l, list(sign("}"))), 0, 1, block(s, s), 2*len(l)+2)
		for _, x := range tails {
			if x.Text == "else" && s.Kind == api.SIf && len(s.Else) == 0 {
				wrongAt(t, append(l[:len(l):len(l)], x, name("y")), 0, 1, len(l)+1, api.ErrForm)
				parsedAt(t, append(l[:len(l):len(l)], x, sign("{"), sign("}")), 0, 1, s, len(l)+3)
				continue
			}
			parsedAt(t, append(l[:len(l):len(l)], x), 0, 1, s, len(l))
			parsedAt(t, append(l[:len(l):len(l)], x, sign("{"), sign("}")), 0, 1, s, len(l))
		}
	}
	for kind := api.SVar; kind <= api.SWhile; kind++ {
		if kinds[kind] < 50 {
			t.Errorf("only %d statements are of the kind %d", kinds[kind], kind)
		}
	}
}

// deepest returns how many blocks of a statement stand in one another, whether they have statements or not.
func deepest(s api.Stmt) int {
	if s.Kind != api.SIf && s.Kind != api.SWhile {
		return 0
	}
	most := 0
	for _, inner := range slices.Concat(s.Body, s.Else) {
		most = max(most, deepest(inner))
	}
	return most + 1
}

// P6.4: statements whose blocks are nested as deep as they can be.
func TestAsWrittenToTheLimit(t *testing.T) {
	for seed := range uint64(300) {
		r := rand.New(rand.NewPCG(seed, 4))
		s := randomStmt(r, 1+r.IntN(18))
		l := tokens(t, written(s))
		parsedAt(t, l, 0, 20-deepest(s), s, len(l))
		if got, _, e := stmt.Parse(l, 0, 21-deepest(s)); got.Kind != 0 || e != api.ErrDeep {
			t.Errorf("Parse(%s, 0, %d) = %+v, %d", show(l), 21-deepest(s), got, e)
		}
	}
}

// P6.5: if a token of a statement is left out with all that follow, or is wrong, its index is returned; but if it is the else of an if, the statement without it.
func TestWhatIsNeeded(t *testing.T) {
	for seed := range uint64(300) {
		r := rand.New(rand.NewPCG(seed, 5))
		l := randomTokens(t, r)
		for i := range l {
			brokenAt(t, l[:i], i, last(l))
			brokenAt(t, slices.Concat(l[:i], list(keyword("func")), l[i+1:]), i, last(l))
			brokenAt(t, slices.Concat(l[:i], list(keyword("func"))), i, last(l))
			brokenAt(t, slices.Concat(l[:i], list(lexeme.Token{Kind: 5, Text: l[i].Text}), l[i+1:]), i, last(l))
		}
	}
}

// rightArgs reports whether the Args of a statement, and of those in it, have the right shape.
func rightArgs(s api.Stmt) bool {
	wrong := func(e api.Expr) bool { return shape.Expr(e) != api.OK }
	not := func(s api.Stmt) bool { return !rightArgs(s) }
	return !slices.ContainsFunc(s.Args, wrong) && !slices.ContainsFunc(s.Body, not) && !slices.ContainsFunc(s.Else, not)
}

// P6.6: what is returned has the right shape, apart from how many statements and arguments there are.
func TestRightShape(t *testing.T) {
	right := 0
	for seed := range uint64(4000) {
		r := rand.New(rand.NewPCG(seed, 6))
		l := changed(r, randomTokens(t, r))
		depth := 1 + r.IntN(10)
		s, _, e := stmt.Parse(l, 0, depth)
		all, _, _ := stmt.Block(slices.Concat(list(sign("{")), l, list(sign("}"))), 0, depth)
		if e == api.OK {
			all = append(all, s)
		}
		for _, s := range all {
			right++
			if s.Kind == api.SCall && len(s.Args) > api.MaxParams {
				continue
			}
			if len(l) < 200 && !shape.SameStmt(s, s) || !rightArgs(s) {
				t.Errorf("%s: %+v", show(l), s)
			}
		}
	}
	if right < 2000 {
		t.Errorf("only %d statements were read", right)
	}
	// More statements and arguments than the shape has room for.
	s, _, _ := stmt.Parse(tokens(t, "x = f("+times(8, "a,")+"a);"), 0, 1)
	if s.Args = s.Args[:min(8, len(s.Args))]; !shape.SameStmt(s, call("x", "f", slices.Repeat(exprs(a), 8)...)) {
		t.Errorf("%+v", s)
	}
	s, _, _ = stmt.Parse(tokens(t, "while a {"+times(300, "print b;")+"}"), 0, 1)
	if s.Body = s.Body[:min(199, len(s.Body))]; !shape.SameStmt(s, loop(a, slices.Repeat(block(print(b)), 199)...)) {
		t.Errorf("%+v", s)
	}
}

// P6.6: the number of each statement is 0.
func TestNumbersAreZero(t *testing.T) {
	l, _, _ := stmt.Block(tokens(t, "{ read x; if a { read x; read y; } else { while b { return; } } f(); }"), 0, 1)
	blockAt(t, tokens(t, writtenBlock(l)), 0, 1, l, 28)
	var look func(l []api.Stmt)
	look = func(l []api.Stmt) {
		for _, s := range l {
			if s.No != 0 {
				t.Errorf("%+v", s)
			}
			look(s.Body)
			look(s.Else)
		}
	}
	look(l)
}

// P1: long lists.
func TestLongLists(t *testing.T) {
	const n = 100000
	for _, x := range []struct {
		text string
		end  int
		err  api.Errno
	}{
		{times(n, "{"), 0, api.ErrForm},
		{times(n, "while a {"), 20*3 - 1, api.ErrDeep},
		{times(n, "if a {"), 20*3 - 1, api.ErrDeep},
		{times(n, "if a { } else {"), 19*6 + 2, api.ErrDeep},
		{times(n, "x ="), 3, api.ErrForm},
		{times(n, "read x;"), 3, api.OK},
		{times(n, "f("), 3, api.ErrForm},
		{times(n, "return"), 1, api.ErrForm},
		{"f(" + times(n, "a,") + "a);", 2*n + 5, api.OK},
		{"while a {" + times(n, "read x;") + "}", 3*n + 4, api.OK},
	} {
		if _, end, e := stmt.Parse(tokens(t, x.text), 0, 1); end != x.end || e != x.err {
			t.Errorf("Parse(%.20s ..) = %d, %d; want %d, %d", x.text, end, e, x.end, x.err)
		}
	}
	l := tokens(t, times(n, "x")+"{ read x; }")
	blockAt(t, l, n, 1, block(read("x")), n+5)
}

// answers returns what Parse and Block return for a list as a statement, and for one as a block.
func answers(l []lexeme.Token) string {
	return fmt.Sprint(stmt.Parse(l, 0, 1)) + fmt.Sprint(stmt.Block(l, 0, 1))
}

// R4 and R8: arguments stay as they are, what stands behind them is not read, and equal calls return equal results in new memory.
func TestArgumentsStay(t *testing.T) {
	for _, text := range append(statements, "{ x = 1; if a { print b; } else { f(a, b); } }", "{", "{ x = ; }", "if a { read x; } els", "") {
		whole := tokens(t, text+" else { }")
		l := whole[:len(whole)-3]
		before := slices.Clone(whole)
		first := answers(l)
		s, _, _ := stmt.Parse(l, 0, 1)
		spoil(block(s))
		all, _, _ := stmt.Block(l, 0, 1)
		spoil(all)
		if again := answers(l); again != first {
			t.Errorf("%s: %s, and then %s", text, first, again)
		}
		if cut := slices.Clip(slices.Clone(l)); answers(cut) != first {
			t.Errorf("%s: what stands behind the tokens is read", text)
		}
		if !slices.Equal(whole, before) {
			t.Errorf("%v became %v", before, whole)
		}
	}
	// No two parts of a result are the same memory.
	text := "{ f(a, b); f(a, b); x[a] = b; if a { print a; read x; } else { print a; read x; } if a { print a; read x; } else { } while a { print a; read x; } }"
	l, _, _ := stmt.Block(tokens(t, text), 0, 1)
	want, _, _ := stmt.Block(tokens(t, text), 0, 1)
	spoil(l[0:1])
	spoil(l[3].Body)
	l[3].Args[0] = num(7)
	want[0], want[3].Body, want[3].Args = l[0], l[3].Body, exprs(num(7))
	if !slices.EqualFunc(l, want, same) {
		t.Errorf("%+v", l)
	}
}

// spoil changes all memory of statements.
func spoil(l []api.Stmt) {
	for i := range l {
		for j := range l[i].Args {
			l[i].Args[j] = api.Expr{Kind: -1}
		}
		spoil(l[i].Body)
		spoil(l[i].Else)
		l[i] = api.Stmt{Kind: -1}
	}
}

// The offsets of tokens do not matter.
func TestOffsetsDoNotMatter(t *testing.T) {
	for _, text := range append(statements, "{ x = f(a); print b; }") {
		l := tokens(t, text)
		moved := slices.Clone(l)
		for i := range moved {
			moved[i].At = []int{-1, 0, 5, math.MinInt, math.MaxInt}[i%5]
		}
		if answers(l) != answers(moved) {
			t.Errorf("%s: %s, and %s", text, answers(l), answers(moved))
		}
	}
}

// P6.3: the words of the types, and others.
func TestType(t *testing.T) {
	words := map[string]int{"int": 1, "bool": 2, "array": 3}
	for _, word := range append(strings.Fields("int bool array func var if else while return print read new len true false Int INT ints in nt boolean arrays none None x 1 2 3 ;"), "", " ", " int", "int ", "int\n", "int bool", "\x00") {
		if got := stmt.Type(word); got != words[word] {
			t.Errorf("Type(%q) = %d", word, got)
		}
	}
	for word, typ := range words {
		if stmt.Word(typ) != word {
			t.Errorf("Word(%d) = %q", typ, stmt.Word(typ))
		}
	}
	for _, n := range []int{math.MinInt, -1 << 32, -3, -2, -1, 0, 4, 5, 100, 1 << 32, 1<<32 + 1, math.MaxInt} {
		if got := stmt.Word(n); got != "" {
			t.Errorf("Word(%d) = %q", n, got)
		}
	}
}
