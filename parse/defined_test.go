package parse_test

import (
	"math"
	"math/rand/v2"
	"slices"
	"strings"
	"testing"

	"rewind/api"
	"rewind/lexeme"
	"rewind/parse"
	"rewind/shape"
	"rewind/stmt"
)

// The definitions of the chapter once more, in another way: the tokens in front of the block lead from state to state, and the function is counted and numbered when it is there. What Func and Program return has to be what they say.

// states says to which state a token leads from another one: n is a Name, t a type, all else stands for itself.
var states = map[string]string{
	"begin func": "name",
	"name n":     "open",
	"open (":     "first",
	"first n":    "type",
	"first )":    "result",
	"param n":    "type",
	"type t":     "more",
	"more ,":     "param",
	"more )":     "result",
	"result t":   "block",
}

// class returns how a token is called in the table of states.
func class(x lexeme.Token) string {
	switch {
	case x.Kind == lexeme.Name && shape.Name(x.Text):
		return "n"
	case x.Kind == lexeme.Keyword && slices.Contains(words[1:], x.Text):
		return "t"
	case x.Kind == lexeme.Keyword && x.Text == "func", x.Kind == lexeme.Sign && x.Text != "":
		return x.Text
	}
	return "none"
}

// numbered gives numbers to statements, from a number on, and returns the one behind them.
func numbered(l []api.Stmt, no int) int {
	for i := range l {
		l[i].No = no
		no = numbered(l[i].Else, numbered(l[i].Body, no+1))
	}
	return no
}

// tooManyArgs reports whether there is a call with more than 8 arguments.
func tooManyArgs(l []api.Stmt) bool {
	for _, s := range l {
		if s.Kind == api.SCall && len(s.Args) > 8 || tooManyArgs(s.Body) || tooManyArgs(s.Else) {
			return true
		}
	}
	return false
}

// defined returns the function from an index on, and the index behind it; or the index of what is wrong, and the error.
func defined(l []lexeme.Token, at int) (api.Func, int, api.Errno) {
	if at < 0 || at > len(l) {
		return api.Func{}, 0, api.ErrRange
	}
	f := api.Func{}
	state, i := "begin", at
	for ; i < len(l) && states[state+" "+class(l[i])] != ""; i++ {
		switch state {
		case "name":
			f.Name = l[i].Text
		case "first", "param":
			if l[i].Kind == lexeme.Name {
				f.Params = append(f.Params, api.Param{Name: l[i].Text})
			}
		case "type":
			f.Params[len(f.Params)-1].Type = slices.Index(words[:], l[i].Text)
		case "result":
			f.Result = slices.Index(words[:], l[i].Text)
		}
		state = states[state+" "+class(l[i])]
	}
	if state != "result" && state != "block" {
		return api.Func{}, i, api.ErrForm
	}
	body, end, e := stmt.Block(l, i, 1)
	if e != api.OK {
		return api.Func{}, end, e
	}
	f.Body, f.Count = body, numbered(body, 0)
	if len(f.Params) > 8 || f.Count > 200 || tooManyArgs(f.Body) {
		return api.Func{}, at, api.ErrMany
	}
	return f, end, api.OK
}

// definedProgram returns the functions of a text; or the offset of what is wrong, and the error.
func definedProgram(text string) ([]api.Func, int, api.Errno) {
	if len(text) > 8192 {
		return nil, 0, api.ErrLong
	}
	l, at, e := lexeme.Scan(text)
	if e != api.OK {
		return nil, at, api.ErrForm
	}
	offsets := []int{}
	for _, x := range l {
		offsets = append(offsets, x.At)
	}
	offsets = append(offsets, len(text))
	var funcs []api.Func
	for at := 0; at < len(l); {
		f, end, e := defined(l, at)
		switch {
		case len(funcs) == 20:
			return nil, offsets[at], api.ErrMany
		case e != api.OK:
			return nil, offsets[end], e
		}
		funcs = append(funcs, f)
		at = end
	}
	return funcs, 0, api.OK
}

// asDefined reports an error if Func does not return what it has to; it returns the error that it has to.
func asDefined(t *testing.T, l []lexeme.Token, at int) api.Errno {
	t.Helper()
	f, end, e := defined(l, at)
	switch e {
	case api.OK:
		funcAt(t, l, at, f, end)
		if shape.Check(api.Program{Funcs: []api.Func{f}}) != api.OK {
			t.Errorf("%+v has not the right shape", f)
		}
	default:
		noFuncAt(t, l, at, end, e)
	}
	return e
}

// programAsDefined reports an error if Program does not return what it has to; it returns the error that it has to.
func programAsDefined(t *testing.T, text string) api.Errno {
	t.Helper()
	funcs, offset, e := definedProgram(text)
	switch e {
	case api.OK:
		program(t, text, funcs...)
	case api.ErrLong:
		noProgram(t, text, api.Place{}, e)
	default:
		noProgram(t, text, placeAt(text, offset), e)
	}
	return e
}

// some returns one token of each sort that matters.
func some() []lexeme.Token {
	return list(name("x"), number("5"), keyword("func"), keyword("int"), keyword("if"), keyword("else"), keyword("print"), sign("("), sign(")"), sign("{"), sign("}"), sign(","), sign(";"), sign("="))
}

// combined calls look for all lists of n of the tokens.
func combined(some []lexeme.Token, n int, look func(l []lexeme.Token)) {
	l := make([]lexeme.Token, n)
	var fill func(i int)
	fill = func(i int) {
		if i == n {
			look(l)
			return
		}
		for _, x := range some {
			l[i] = x
			fill(i + 1)
		}
	}
	fill(0)
}

// text returns tokens as they can stand in a text.
func text(l []lexeme.Token) string {
	var s []string
	for _, x := range l {
		s = append(s, x.Text)
	}
	return strings.Join(s, " ")
}

// P7.1 and P7.2: all short lists of the tokens that matter, alone, and behind the head of a function.
func TestAllShortLists(t *testing.T) {
	fronts := []string{"", "func f", "func f(a", "func f(a int", "func f()", "func f() int", "func f() {", "func f() { }"}
	for n := range 4 {
		combined(some(), n, func(l []lexeme.Token) {
			for _, front := range fronts {
				behind := slices.Concat(tokens(t, front), l)
				asDefined(t, behind, 0)
				programAsDefined(t, text(behind))
			}
		})
	}
}

// P7.1: short lists of a few tokens, from all indexes.
func TestShortListsAtAllIndexes(t *testing.T) {
	few := list(keyword("func"), name("f"), sign("("), sign(")"), sign("{"), sign("}"), keyword("int"))
	for n := range 5 {
		combined(few, n, func(l []lexeme.Token) {
			for _, at := range []int{math.MinInt, -1, 0, 1, 2, 3, 4, 5, math.MaxInt} {
				asDefined(t, l, at)
			}
		})
	}
}

// functions are functions with all that matters.
var functions = []string{
	"func f() { }", "func f() int { }", "func main() { print 1; }", "func f(a int) { }", "func f(a int) bool { return a; }", "func f(a bool, b array, c int) array { read b; return b; }",
	"func g(n int) { if n { print n; } else { f(n); } while n { } n = f(n, 1); }", "func g() { var a array; a = new 1; a[len(a)] = -a[0]; }", "func g(a int, a int) { if a { if a { } } return; }",
}

// P7.1 and P7.2: each beginning of each function, with all that two tokens behind it can be, and then with the rest.
func TestAllBeginnings(t *testing.T) {
	for _, s := range functions {
		l := tokens(t, s)
		for i := range len(l) + 1 {
			for n := range 3 {
				combined(some(), n, func(two []lexeme.Token) {
					for _, x := range [][]lexeme.Token{slices.Concat(l[:i], two), slices.Concat(l[:i], two, l[min(i+1, len(l)):])} {
						asDefined(t, x, 0)
						programAsDefined(t, text(x))
					}
				})
			}
		}
	}
}

// randomExpr returns the text of an expression.
func randomExpr(r *rand.Rand) string {
	switch r.IntN(9) {
	case 0:
		return "( " + randomExpr(r) + " )"
	case 1:
		return randomExpr(r) + " " + []string{"+", "<=", "&&", "*"}[r.IntN(4)] + " " + randomExpr(r)
	case 2:
		return []string{"- ", "! "}[r.IntN(2)] + randomExpr(r)
	case 3:
		return "a [ " + randomExpr(r) + " ]"
	case 4:
		return "len ( a )"
	case 5:
		return "true"
	}
	return []string{"x", "n", "b_1", "12", "0"}[r.IntN(5)]
}

// several returns n texts with a comma between two of them.
func several(n int, one func() string) string {
	var l []string
	for range n {
		l = append(l, one())
	}
	return strings.Join(l, " , ")
}

// randomBlock returns the text of a block, with blocks in it up to a height.
func randomBlock(r *rand.Rand, height int) string {
	s := "{ "
	for range r.IntN(4) {
		s += randomStmt(r, height) + " "
	}
	return s + "}"
}

// randomStmt returns the text of a statement, with blocks in it up to a height.
func randomStmt(r *rand.Rand, height int) string {
	e := randomExpr(r)
	kind := r.IntN(12)
	if height == 0 {
		kind %= 8
	}
	switch kind {
	case 0:
		return "var x " + words[1+r.IntN(3)] + []string{" ;", " = " + e + " ;"}[r.IntN(2)]
	case 1:
		return "x = " + []string{"", "new "}[r.IntN(2)] + e + " ;"
	case 2:
		return "a [ " + randomExpr(r) + " ] = " + e + " ;"
	case 3:
		return "read x ;"
	case 4, 5:
		// Some calls have too many arguments.
		n := r.IntN(r.IntN(12) + 1)
		return []string{"", "x = "}[r.IntN(2)] + "f ( " + several(n, func() string { return randomExpr(r) }) + " ) ;"
	case 6:
		return []string{"return ;", "return " + e + " ;"}[r.IntN(2)]
	case 7:
		return "print " + e + " ;"
	case 8:
		return "while " + e + " " + randomBlock(r, height-1)
	case 9:
		return "if " + e + " " + randomBlock(r, height-1)
	}
	return "if " + e + " " + randomBlock(r, height-1) + " else " + randomBlock(r, height-1)
}

// randomFunc returns the text of a function, with one space between two tokens.
func randomFunc(r *rand.Rand) string {
	n := 0
	param := func() string {
		n++
		return []string{"a", "b", "n", "Len"}[r.IntN(4)] + " " + words[1+r.IntN(3)]
	}
	// Some functions have too many parameters.
	head := "func " + []string{"f", "g", "main", "abcdefghijklmnop"}[r.IntN(4)] + " ( " + several(r.IntN(r.IntN(14)+1), param) + " ) "
	return strings.Join(strings.Fields(head+words[r.IntN(4)]+" "+randomBlock(r, r.IntN(4))), " ")
}

// changed returns the tokens of a text, of which some were replaced, left out, or put in.
func changed(r *rand.Rand, text string) []string {
	l := strings.Fields(text)
	for range r.IntN(3) {
		i := r.IntN(len(l) + 1)
		switch x := some()[r.IntN(len(some()))].Text; {
		case i == len(l) || r.IntN(3) == 0:
			l = slices.Insert(l, i, x)
		case r.IntN(2) == 0:
			l = slices.Delete(l, i, i+1)
		default:
			l[i] = x
		}
	}
	return l
}

// P7.1: random functions, most of which are changed at some tokens; also cut off at a token, and read from an index.
func TestRandomFunctions(t *testing.T) {
	found := map[api.Errno]int{}
	for seed := range uint64(6000) {
		r := rand.New(rand.NewPCG(seed, 1))
		l := tokens(t, strings.Join(changed(r, randomFunc(r)), " "))
		found[asDefined(t, l, 0)]++
		asDefined(t, l[:r.IntN(len(l)+1)], 0)
		asDefined(t, l, r.IntN(len(l)+1))
		asDefined(t, slices.Concat(l, l), len(l))
	}
	for e, n := range map[api.Errno]int{api.OK: 1000, api.ErrForm: 1000, api.ErrMany: 200} {
		if found[e] < n {
			t.Errorf("the error %d was found %d times only", e, found[e])
		}
	}
}

// randomText returns the text of a program, which may be wrong at some tokens, with all sorts of white space.
func randomText(r *rand.Rand) string {
	var l []string
	for range r.IntN(5) {
		switch r.IntN(6) {
		case 0:
			l = append(l, changed(r, randomFunc(r))...)
		default:
			l = append(l, strings.Fields(randomFunc(r))...)
		}
	}
	return spaced(r, l)
}

// P7.2: random programs, some of which are changed at some tokens, or at some bytes.
func TestRandomPrograms(t *testing.T) {
	found := map[api.Errno]int{}
	for seed := range uint64(6000) {
		r := rand.New(rand.NewPCG(seed, 2))
		s := randomText(r)
		found[programAsDefined(t, s)]++
		at := r.IntN(len(s) + 1)
		programAsDefined(t, s[:at])
		programAsDefined(t, s[:at]+string(rune(r.IntN(128)))+s[at:])
	}
	for e, n := range map[api.Errno]int{api.OK: 1000, api.ErrForm: 500, api.ErrMany: 200} {
		if found[e] < n {
			t.Errorf("the error %d was found %d times only", e, found[e])
		}
	}
}

// R8: equal calls return equal results.
func TestEqualCalls(t *testing.T) {
	for seed := range uint64(300) {
		r := rand.New(rand.NewPCG(seed, 3))
		s := randomText(r)
		first, p, e := parse.Program(s)
		again, q, d := parse.Program(s)
		if !slices.EqualFunc(first.Funcs, again.Funcs, same) || p != q || e != d {
			t.Errorf("%q: %+v, %v, %d, and then %+v, %v, %d", s, first, p, e, again, q, d)
		}
	}
}
