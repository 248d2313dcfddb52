package stmt_test

import (
	"math"
	"math/rand/v2"
	"slices"
	"strings"
	"testing"

	"rewind/api"
	"rewind/expr"
	"rewind/lexeme"
	"rewind/shape"
)

// The definitions of the chapter once more, in another way: each row of the table is tried, and the one that leads furthest decides. What Parse and Block return has to be what they say.

// row is a row of the table of statements: N is a Name, T a type, E an expression, A arguments, B a block; all else stands for itself.
type row struct {
	tokens string
	kind   int
}

var rows = []row{
	{"var N T ;", 1},
	{"var N T = E ;", 1},
	{"N = E ;", 2},
	{"N [ E ] = E ;", 3},
	{"N = new E ;", 4},
	{"read N ;", 5},
	{"print E ;", 6},
	{"N A ;", 7},
	{"N = N A ;", 7},
	{"return ;", 8},
	{"return E ;", 8},
	{"if E B", 9},
	{"if E B else B", 9},
	{"while E B", 10},
}

// outcome is where reading from an index on leads: behind a statement, or behind statements, or to the token that is wrong.
type outcome struct {
	s   api.Stmt
	l   []api.Stmt
	end int
	err api.Errno
}

// definition is a list of tokens, and what is known of statements and blocks by their indexes and depths.
type definition struct {
	l      []lexeme.Token
	stmts  map[[2]int]outcome
	blocks map[[2]int]outcome
}

func define(l []lexeme.Token) *definition {
	return &definition{l, map[[2]int]outcome{}, map[[2]int]outcome{}}
}

// is reports whether a token is this one.
func (d *definition) is(at, kind int, text string) bool {
	return at < len(d.l) && d.l[at].Kind == kind && d.l[at].Text == text
}

// try reads what a row says.
func (d *definition) try(x row, at, depth int) outcome {
	s := api.Stmt{Kind: x.kind}
	var names []string
	var blocks [][]api.Stmt
	for _, part := range strings.Fields(x.tokens) {
		end, err := at+1, api.Errno(api.OK)
		var e api.Expr
		var l []api.Expr
		switch part {
		case "N":
			if at == len(d.l) || d.l[at].Kind != lexeme.Name || !shape.Name(d.l[at].Text) {
				return outcome{end: at, err: api.ErrForm}
			}
			names = append(names, d.l[at].Text)
		case "T":
			for t, word := range []string{1: "int", 2: "bool", 3: "array"} {
				if t > 0 && d.is(at, lexeme.Keyword, word) {
					s.Type = t
				}
			}
			if s.Type == 0 {
				return outcome{end: at, err: api.ErrForm}
			}
		case "E":
			e, end, err = expr.Parse(d.l, at, 0)
			s.Args = append(s.Args, e)
		case "A":
			l, end, err = expr.List(d.l, at, 0)
			s.Args = append(s.Args, l...)
		case "B":
			b := d.block(at, depth+1)
			blocks = append(blocks, b.l)
			end, err = b.end, b.err
		default:
			kind := lexeme.Sign
			if lexeme.Reserved(part) {
				kind = lexeme.Keyword
			}
			if !d.is(at, kind, part) {
				return outcome{end: at, err: api.ErrForm}
			}
		}
		if err != api.OK {
			return outcome{end: end, err: err}
		}
		at = end
	}
	switch {
	case x.kind == 7:
		s.Callee = names[len(names)-1]
		s.Name = strings.Join(names[:len(names)-1], "")
	case len(names) > 0:
		s.Name = names[0]
	}
	blocks = append(blocks, nil, nil)
	s.Body, s.Else = blocks[0], blocks[1]
	return outcome{s: s, end: at}
}

// stmt returns where reading a statement leads.
func (d *definition) stmt(at, depth int) outcome {
	key := [2]int{at, depth}
	if o, ok := d.stmts[key]; ok {
		return o
	}
	best := outcome{end: at, err: api.ErrForm}
	for _, x := range rows {
		o := d.try(x, at, depth)
		if o.end > best.end || o.end == best.end && o.err == api.OK {
			best = o
		}
	}
	d.stmts[key] = best
	return best
}

// block returns where reading a block leads.
func (d *definition) block(at, depth int) outcome {
	key := [2]int{at, depth}
	if o, ok := d.blocks[key]; ok {
		return o
	}
	best := outcome{end: at, err: api.ErrForm}
	switch {
	case !d.is(at, lexeme.Sign, "{"):
	case depth > 20:
		best.err = api.ErrDeep
	default:
		best = d.inside(at+1, depth)
	}
	d.blocks[key] = best
	return best
}

// inside returns where reading the statements of a block and its } leads.
func (d *definition) inside(at, depth int) outcome {
	var l []api.Stmt
	for !d.is(at, lexeme.Sign, "}") {
		o := d.stmt(at, depth)
		if o.err != api.OK {
			return o
		}
		l = append(l, o.s)
		at = o.end
	}
	return outcome{l: l, end: at + 1}
}

// sameAsDefined reports an error if Parse or Block does not return what it has to; it returns the errors of both.
func sameAsDefined(t *testing.T, l []lexeme.Token, at, depth int) (api.Errno, api.Errno) {
	t.Helper()
	s, b := outcome{err: api.ErrRange}, outcome{err: api.ErrRange}
	if at >= 0 && at <= len(l) && depth >= 1 {
		d := define(l)
		// All depths behind the limit are alike.
		s, b = d.stmt(at, min(depth, 30)), d.block(at, min(depth, 30))
	}
	switch s.err {
	case api.OK:
		parsedAt(t, l, at, depth, s.s, s.end)
	default:
		wrongAt(t, l, at, depth, s.end, s.err)
	}
	switch b.err {
	case api.OK:
		blockAt(t, l, at, depth, b.l, b.end)
	default:
		noBlockAt(t, l, at, depth, b.end, b.err)
	}
	return s.err, b.err
}

// some returns one token of each sort that matters.
func some() []lexeme.Token {
	return list(name("x"), name("f"), number("5"), keyword("var"), keyword("int"), keyword("if"), keyword("else"), keyword("while"), keyword("return"), keyword("print"), keyword("read"), keyword("new"), keyword("len"), keyword("func"),
		sign("("), sign(")"), sign("{"), sign("}"), sign("["), sign("]"), sign(","), sign(";"), sign("="), sign("-"))
}

// combined calls look for all lists of n of the tokens.
func combined(some []lexeme.Token, n int, look func(l []lexeme.Token)) {
	l := make([]lexeme.Token, n)
	var fill func(i int)
	fill = func(i int) {
		if i == n {
			look(l)
			return
		}
		for _, x := range some {
			l[i] = x
			fill(i + 1)
		}
	}
	fill(0)
}

// P6.1 and P6.2: all short lists of the tokens that matter, alone and in a block.
func TestAllShortLists(t *testing.T) {
	for n := range 4 {
		combined(some(), n, func(l []lexeme.Token) {
			sameAsDefined(t, l, 0, 1)
			sameAsDefined(t, slices.Concat(list(sign("{")), l), 0, 20)
			sameAsDefined(t, slices.Concat(list(sign("{")), l, list(sign("}"))), 0, 20)
		})
	}
}

// P6.1 and P6.2: each beginning of each statement, with all that two tokens behind it can be, and then with the rest.
func TestAllBeginnings(t *testing.T) {
	for _, text := range statements {
		l := tokens(t, text)
		for i := range len(l) + 1 {
			for n := range 3 {
				combined(some(), n, func(two []lexeme.Token) {
					sameAsDefined(t, slices.Concat(l[:i], two), 0, 1)
					sameAsDefined(t, slices.Concat(l[:i], two, l[min(i+1, len(l)):]), 0, 1)
				})
			}
		}
	}
}

// P6.1 and P6.2: short lists at all indexes, and at depths near the limits.
func TestShortListsAtAllIndexes(t *testing.T) {
	few := list(name("a"), keyword("if"), keyword("else"), sign("{"), sign("}"))
	for n := range 6 {
		combined(few, n, func(l []lexeme.Token) {
			for _, depth := range []int{math.MinInt, -1, 0, 1, 19, 20, 21, math.MaxInt} {
				for at := -1; at <= n+1; at++ {
					sameAsDefined(t, l, at, depth)
				}
			}
		})
	}
}

// P6.1 and P6.2: random statements, most of which are changed at some tokens, at all depths.
func TestRandomLists(t *testing.T) {
	found, foundInBlocks := map[api.Errno]int{}, map[api.Errno]int{}
	for seed := range uint64(8000) {
		r := rand.New(rand.NewPCG(seed, 1))
		l := changed(r, randomTokens(t, r))
		depth := 1 + r.IntN(20)
		e, _ := sameAsDefined(t, l, 0, depth)
		found[e]++
		_, e = sameAsDefined(t, slices.Concat(list(sign("{")), l, list(sign("}"))), 0, depth)
		foundInBlocks[e]++
	}
	for _, e := range []api.Errno{api.OK, api.ErrForm, api.ErrDeep} {
		if found[e] < 500 || foundInBlocks[e] < 500 {
			t.Errorf("the error %d was found by Parse %d times, and by Block %d times only", e, found[e], foundInBlocks[e])
		}
	}
}

// changed returns tokens of which some were replaced, left out, or put in.
func changed(r *rand.Rand, l []lexeme.Token) []lexeme.Token {
	for range r.IntN(3) {
		i := r.IntN(len(l) + 1)
		switch x := some()[r.IntN(len(some()))]; {
		case i == len(l) || r.IntN(3) == 0:
			l = slices.Insert(l, i, x)
		case r.IntN(2) == 0:
			l = slices.Delete(l, i, i+1)
		default:
			l[i] = x
		}
	}
	return l
}

// P6.1 and P6.2: random statements that are cut off at each token, and read from each index.
func TestListsFromEachIndex(t *testing.T) {
	for seed := range uint64(40) {
		r := rand.New(rand.NewPCG(seed, 2))
		l := randomTokens(t, r)
		l = l[:min(len(l), 150)]
		for i := range len(l) + 1 {
			sameAsDefined(t, l[:i], 0, 1)
			sameAsDefined(t, l, i, 18)
		}
	}
}
