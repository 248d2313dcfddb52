package parse_test

import (
	"fmt"
	"math/rand/v2"
	"slices"
	"strings"
	"testing"

	"rewind/api"
	"rewind/lexeme"
	"rewind/parse"
	"rewind/shape"
)

// space returns white space and comments, or possibly nothing.
func space(r *rand.Rand) string {
	var s string
	for range r.IntN(4) {
		s += []string{" ", "\t", "\r\n", "\n\n", "// } func f( @ $\n", " //\r\n", "//\xff\x00\n", "/// \"a\n"}[r.IntN(8)]
	}
	return s
}

// between returns white space and comments that can stand between two tokens without making others of them.
func between(r *rand.Rand, a, b string) string {
	s := space(r)
	apart := strings.ContainsAny("(){}[],;", a[len(a)-1:]) || strings.ContainsAny("(){}[],;", b[:1])
	if s == "" && !apart {
		return " "
	}
	// A comment in front of which a / stands would begin at this one.
	if strings.HasSuffix(a, "/") {
		return " " + s
	}
	return s
}

// spaced returns a text of these tokens, with white space and comments between them.
func spaced(r *rand.Rand, l []string) string {
	s := space(r)
	for i, x := range l {
		if i > 0 {
			s += between(r, l[i-1], x)
		}
		s += x
	}
	return s + space(r) + []string{"", "// the end", "//"}[r.IntN(3)]
}

// P7.3: what Program returns has the right shape, and nothing of it is there together with an error.
func TestRightShape(t *testing.T) {
	right := 0
	for seed := range uint64(3000) {
		r := rand.New(rand.NewPCG(seed, 4))
		p, at, e := parse.Program(randomText(r))
		if shape.Check(p) != api.OK || !shape.Same(p, p) {
			t.Errorf("%+v has not the right shape", p)
		}
		switch {
		case e != api.OK && len(p.Funcs) > 0, e == api.OK && at != api.Place{}:
			t.Errorf("%+v, %v, %d", p, at, e)
		case e == api.OK:
			right++
		}
	}
	if right < 500 {
		t.Errorf("only %d texts were read", right)
	}
}

// P7.3: at the limits, too.
func TestRightShapeAtTheLimits(t *testing.T) {
	eight := "x = f(" + row(8, times(19, "-")+"1") + ");"
	for _, text := range []string{
		"func f(" + row(8, "a int") + ") array { }",
		"func f() { " + times(200, "f();") + "}",
		"func f() { " + times(19, "while a {") + "read x;" + times(19, "}") + times(180, "f();") + "}",
		"func f() { " + times(19, "if a { } else {") + times(19, "}") + eight + "}",
		strings.Repeat("func f() { "+eight+"}", 20),
		"func f() { print 9223372036854775807; abcdefghijklmnop(); }",
	} {
		p, at, e := parse.Program(text)
		if shape.Check(p) != api.OK || len(p.Funcs) == 0 || at != (api.Place{}) || e != api.OK {
			t.Errorf("Program(%.40q ..) = %v, %d", text, at, e)
		}
		if !slices.EqualFunc(shape.Number(p).Funcs, p.Funcs, same) {
			t.Errorf("Program(%.40q ..) has other numbers", text)
		}
	}
}

// P7.4: white space and comments change neither whether a text is read nor the program; an error has the place of the same token.
func TestWhiteSpace(t *testing.T) {
	found := map[api.Errno]int{}
	for seed := range uint64(3000) {
		r := rand.New(rand.NewPCG(seed, 5))
		l := changed(r, randomFunc(r)+" "+randomFunc(r))
		plain := strings.Join(l, " ")
		want, at, e := parse.Program(plain)
		found[e]++
		for range 3 {
			s := spaced(r, l)
			if e == api.OK {
				program(t, s, want.Funcs...)
				continue
			}
			wrong := slices.IndexFunc(tokens(t, plain), func(x lexeme.Token) bool { return placeAt(plain, x.At) == at })
			offset := len(s)
			if wrong >= 0 {
				offset = tokens(t, s)[wrong].At
			}
			noProgram(t, s, placeAt(s, offset), e)
		}
	}
	for _, e := range []api.Errno{api.OK, api.ErrForm, api.ErrMany} {
		if found[e] < 100 {
			t.Errorf("the error %d was found %d times only", e, found[e])
		}
	}
}

// P7.4: each sort of white space between all tokens, and as little as there can be.
func TestEachWhiteSpace(t *testing.T) {
	for _, s := range functions {
		l := tokens(t, s)
		want, _, _ := defined(l, 0)
		for _, space := range []string{" ", "\t", "\r", "\n", "\r\n", "   ", "\n\n\n", " // a\n", "//\n", "\t//}\n//{\n\t"} {
			var text string
			for _, x := range l {
				text += x.Text + space
			}
			program(t, text, want)
			program(t, space+text, want)
			program(t, text+text, want, want)
		}
		var least string
		for i, x := range l {
			if i > 0 && x.Kind != 4 && l[i-1].Kind != 4 {
				least += " "
			}
			least += x.Text
		}
		program(t, least, want)
		program(t, least+least+"//", want, want)
	}
}

// P7.5: a text of two texts that are read, with a line feed between them, has the functions of both.
func TestTwoTexts(t *testing.T) {
	read, tooMany, tooLong := 0, 0, 0
	for seed := range uint64(3000) {
		r := rand.New(rand.NewPCG(seed, 6))
		texts := [2]string{}
		funcs := [2][]api.Func{}
		ok := true
		for i := range texts {
			for range r.IntN(4) {
				texts[i] += randomText(r) + "\n"
			}
			texts[i] += times(r.IntN(r.IntN(18)+1), "func f() { }")
			texts[i] += []string{"", "// end", "//", " "}[r.IntN(4)]
			// Some texts are long, but not too long.
			if n := 6000 - len(texts[i]); n > 0 && r.IntN(4) == 0 {
				texts[i] = strings.Repeat("\n", n) + texts[i]
			}
			p, _, e := parse.Program(texts[i])
			funcs[i], ok = p.Funcs, ok && e == api.OK
		}
		both := texts[0] + "\n" + texts[1]
		all := slices.Concat(funcs[0], funcs[1])
		switch {
		case !ok:
		case len(both) > 8192:
			tooLong++
			noProgram(t, both, api.Place{}, api.ErrLong)
		case len(all) > 20:
			tooMany++
			if p, _, e := parse.Program(both); len(p.Funcs) > 0 || e != api.ErrMany {
				t.Errorf("Program(%q) = %+v, %d", both, p, e)
			}
		default:
			read++
			program(t, both, all...)
		}
	}
	if read < 500 || tooLong < 20 || tooMany < 20 {
		t.Errorf("%d pairs of texts were read, %d were too long, and %d had too many functions", read, tooLong, tooMany)
	}
}

// P7.5: each number of functions in both texts.
func TestTwoTextsOfManyFunctions(t *testing.T) {
	f, g := function("f", nil, api.None, 0), function("g", nil, api.Int, 1, give(0, num(1)))
	for n := range 21 {
		for m := range 21 {
			first, second := times(n, "func f() { }")+"// first", times(m, "func g() int { return 1; }")
			both := first + "\n" + second
			if n+m > 20 {
				at := tokens(t, both)[6*n+10*max(0, 20-n)].At
				noProgram(t, both, placeAt(both, at), api.ErrMany)
				continue
			}
			program(t, both, slices.Concat(slices.Repeat([]api.Func{f}, n), slices.Repeat([]api.Func{g}, m))...)
		}
	}
}

// spoil changes all memory of a function.
func spoil(f api.Func) {
	for i := range f.Params {
		f.Params[i] = api.Param{Name: "spoilt", Type: 9}
	}
	spoilStmts(f.Body)
}

// spoilStmts changes all memory of statements.
func spoilStmts(l []api.Stmt) {
	for i := range l {
		spoilExprs(l[i].Args)
		spoilStmts(l[i].Body)
		spoilStmts(l[i].Else)
		l[i] = api.Stmt{Kind: -1}
	}
}

// spoilExprs changes all memory of expressions.
func spoilExprs(l []api.Expr) {
	for i := range l {
		spoilExprs(l[i].Args)
		l[i] = api.Expr{Kind: -1}
	}
}

// R4: arguments stay as they are, what stands behind them is not read, and results are new memory.
func TestArgumentsStay(t *testing.T) {
	for _, s := range append(functions, "func f(", "func f(a int", "func f() { x = ; }", "func f() { if a { read x; } els", "") {
		whole := tokens(t, s+" } } ; }")
		l := whole[:len(whole)-4]
		before := slices.Clone(whole)
		answer := func() string { return fmt.Sprint(parse.Func(l, 0)) + fmt.Sprint(parse.Program(s)) }
		first := answer()
		f, _, _ := parse.Func(l, 0)
		spoil(f)
		p, _, _ := parse.Program(s)
		for _, f := range p.Funcs {
			spoil(f)
		}
		if again := answer(); again != first {
			t.Errorf("%s: %s, and then %s", s, first, again)
		}
		if !slices.Equal(whole, before) {
			t.Errorf("%v became %v", before, whole)
		}
		asDefined(t, l, 0)
	}
}

// LANGUAGE.md 7: no two parts of a program are the same memory.
func TestPartsAreNotShared(t *testing.T) {
	text := "func f(a int, b int) { f(a, b); if a { f(a, b); } else { f(a, b); } while a { f(a, b); } }"
	build := func() []api.Func {
		p, _, _ := parse.Program(text + text + text)
		return p.Funcs
	}
	got, want := build(), build()
	spoil(got[1])
	if !same(got[0], want[0]) || !same(got[2], want[2]) || same(got[1], want[1]) {
		t.Errorf("%+v", got)
	}
	spoilStmts(got[0].Body[1].Else)
	spoilExprs(got[0].Body[0].Args[:1])
	want[0].Body[1].Else[0] = api.Stmt{Kind: -1}
	want[0].Body[0].Args[0] = api.Expr{Kind: -1}
	if !same(got[0], want[0]) {
		t.Errorf("%+v", got[0])
	}
}
