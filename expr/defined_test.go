package expr_test

import (
	"math"
	"math/rand/v2"
	"slices"
	"strconv"
	"testing"

	"rewind/api"
	"rewind/expr"
	"rewind/lexeme"
	"rewind/shape"
)

// The definitions of the chapter once more, in another way: the tokens are read one by one, with a stack of what is open and a stack of what is complete, and no function calls itself. What Parse and List return has to be what they say.

// open is what waits for an operand, or for its closing sign.
type open struct {
	sign string // (, [, an operator with one operand (of the rank 6), or one with two
	rank int
	name string
}

// complete is an expression, and its depth.
type complete struct {
	e     api.Expr
	depth int
}

// definition is how far the tokens are read.
type definition struct {
	l      []lexeme.Token
	i      int
	depth  int
	opened []open
	done   []complete
}

// is reports whether the token n places further on is this one.
func (d *definition) is(n, kind int, text string) bool {
	return d.i+n < len(d.l) && d.l[d.i+n].Kind == kind && d.l[d.i+n].Text == text
}

// name returns the Name n places further on, or an empty string.
func (d *definition) name(n int) string {
	if d.i+n < len(d.l) && d.l[d.i+n].Kind == lexeme.Name && shape.Name(d.l[d.i+n].Text) {
		return d.l[d.i+n].Text
	}
	return ""
}

// full reports whether nothing more may be nested here.
func (d *definition) full() bool {
	n := min(d.depth, 40)
	for _, o := range d.opened {
		if o.sign == "(" || o.sign == "[" || o.rank == 6 {
			n++
		}
	}
	return n >= 40
}

// operand reads a token where an operand has to begin. It reports whether the operand has ended; or an error, which is found at the token i.
func (d *definition) operand() (bool, api.Errno) {
	for _, s := range []string{"(", "-", "!"} {
		if !d.is(0, lexeme.Sign, s) {
			continue
		}
		if d.full() {
			return false, api.ErrDeep
		}
		d.opened = append(d.opened, open{sign: s, rank: map[string]int{"(": 0, "-": 6, "!": 6}[s]})
		d.i++
		return false, api.OK
	}
	e := api.Expr{}
	switch name := d.name(0); {
	case name != "" && d.is(1, lexeme.Sign, "["):
		d.i++
		if d.full() {
			return false, api.ErrDeep
		}
		d.opened = append(d.opened, open{sign: "[", name: name})
		d.i++
		return false, api.OK
	case name != "":
		e = variable(name)
	case d.is(0, lexeme.Keyword, "true"):
		e = truth(1)
	case d.is(0, lexeme.Keyword, "false"):
		e = truth(0)
	case d.is(0, lexeme.Keyword, "len"):
		d.i++
		if !d.is(0, lexeme.Sign, "(") {
			return false, api.ErrForm
		}
		d.i++
		e = length(d.name(0))
		if e.Name == "" {
			return false, api.ErrForm
		}
		d.i++
		if !d.is(0, lexeme.Sign, ")") {
			return false, api.ErrForm
		}
	default:
		if d.i == len(d.l) || d.l[d.i].Kind != lexeme.Number {
			return false, api.ErrForm
		}
		n, err := strconv.ParseUint(d.l[d.i].Text, 10, 63)
		if err != nil || strconv.FormatUint(n, 10) != d.l[d.i].Text {
			return false, api.ErrForm
		}
		e = num(int64(n))
	}
	d.i++
	d.done = append(d.done, complete{e, 1})
	return true, api.OK
}

// put completes what waits on top of the stack, and reports whether its depth is not too great.
func (d *definition) put() bool {
	o := d.opened[len(d.opened)-1]
	d.opened = d.opened[:len(d.opened)-1]
	last := d.done[len(d.done)-1]
	d.done = d.done[:len(d.done)-1]
	switch {
	case o.sign == "(":
	case o.sign == "[":
		last = complete{index(o.name, last.e), last.depth + 1}
	case o.rank == 6 && o.sign == "-":
		last = complete{minus(last.e), last.depth + 1}
	case o.rank == 6:
		last = complete{not(last.e), last.depth + 1}
	default:
		left := d.done[len(d.done)-1]
		d.done = d.done[:len(d.done)-1]
		last = complete{binary(left.e, o.sign, last.e), max(left.depth, last.depth) + 1}
	}
	d.done = append(d.done, last)
	return last.depth <= 20
}

// putAll completes the operators that bind at least as closely as this rank, down to what is open.
func (d *definition) putAll(rank int) bool {
	for len(d.opened) > 0 && d.opened[len(d.opened)-1].rank >= max(rank, 1) {
		if !d.put() {
			return false
		}
	}
	return true
}

// defined returns what Parse has to return.
func defined(l []lexeme.Token, at, depth int) (api.Expr, int, api.Errno) {
	if at < 0 || at > len(l) || depth < 0 {
		return api.Expr{}, 0, api.ErrRange
	}
	d := &definition{l: l, i: at, depth: depth}
	for ended := false; ; {
		if !ended {
			var e api.Errno
			if ended, e = d.operand(); e != api.OK {
				return api.Expr{}, d.i, e
			}
			continue
		}
		rank := 0
		if d.i < len(l) && l[d.i].Kind == lexeme.Sign {
			rank = ranks[l[d.i].Text][1]
		}
		if !d.putAll(rank) {
			return api.Expr{}, d.i - 1, api.ErrDeep
		}
		switch {
		case rank > 0:
			d.opened = append(d.opened, open{sign: l[d.i].Text, rank: rank})
			d.i++
			ended = false
		case len(d.opened) == 0:
			return d.done[0].e, d.i, api.OK
		case !d.is(0, lexeme.Sign, map[string]string{"(": ")", "[": "]"}[d.opened[len(d.opened)-1].sign]):
			return api.Expr{}, d.i, api.ErrForm
		default:
			d.i++
			if !d.put() {
				return api.Expr{}, d.i - 1, api.ErrDeep
			}
		}
	}
}

// definedList returns what List has to return.
func definedList(l []lexeme.Token, at, depth int) ([]api.Expr, int, api.Errno) {
	if at < 0 || at > len(l) || depth < 0 {
		return nil, 0, api.ErrRange
	}
	if at == len(l) || l[at].Kind != lexeme.Sign || l[at].Text != "(" {
		return nil, at, api.ErrForm
	}
	var all []api.Expr
	for at++; ; at++ {
		closed := at < len(l) && l[at].Kind == lexeme.Sign && l[at].Text == ")"
		if closed && len(all) == 0 {
			return nil, at + 1, api.OK
		}
		e, end, err := defined(l, at, depth)
		if err != api.OK {
			return nil, end, err
		}
		all = append(all, e)
		at = end
		if at == len(l) || l[at].Kind != lexeme.Sign || l[at].Text != ")" && l[at].Text != "," {
			return nil, at, api.ErrForm
		}
		if l[at].Text == ")" {
			return all, at + 1, api.OK
		}
	}
}

// sameAsDefined reports an error if Parse or List does not return what it has to; it returns the errors of both.
func sameAsDefined(t *testing.T, l []lexeme.Token, at, depth int) (api.Errno, api.Errno) {
	t.Helper()
	got, end, e := expr.Parse(l, at, depth)
	want, wantEnd, wantE := defined(l, at, depth)
	if !same(got, want) || end != wantEnd || e != wantE {
		t.Errorf("Parse(%s, %d, %d) = %v, %d, %d; want %v, %d, %d", show(l), at, depth, got, end, e, want, wantEnd, wantE)
	}
	all, end, listE := expr.List(l, at, depth)
	wantAll, wantEnd, wantE := definedList(l, at, depth)
	if !slices.EqualFunc(all, wantAll, same) || end != wantEnd || listE != wantE {
		t.Errorf("List(%s, %d, %d) = %v, %d, %d; want %v, %d, %d", show(l), at, depth, all, end, listE, wantAll, wantEnd, wantE)
	}
	return e, listE
}

// combined calls look for all lists of n of the tokens.
func combined(some []lexeme.Token, n int, look func(l []lexeme.Token)) {
	l := make([]lexeme.Token, n)
	var fill func(i int)
	fill = func(i int) {
		if i == n {
			look(l)
			return
		}
		for _, x := range some {
			l[i] = x
			fill(i + 1)
		}
	}
	fill(0)
}

// P5.1 and P5.2: all short lists of the tokens that matter.
func TestAllShortLists(t *testing.T) {
	some := list(name("a"), number("5"), keyword("true"), keyword("len"), keyword("int"), sign("("), sign(")"), sign("["), sign("]"), sign("-"), sign("!"), sign("*"), sign("||"), sign(","))
	for n := range 6 {
		combined(some, n, func(l []lexeme.Token) { sameAsDefined(t, l, 0, 0) })
	}
}

// P5.1 and P5.2: short lists at all indexes, and at depths near the limit.
func TestShortListsAtAllIndexes(t *testing.T) {
	some := list(name("a"), sign("("), sign(")"), sign("["), sign("]"), sign("-"), sign(","))
	for n := range 5 {
		combined(some, n, func(l []lexeme.Token) {
			for _, depth := range []int{-1, 38, 39, 40, math.MaxInt} {
				for at := -1; at <= n+1; at++ {
					sameAsDefined(t, l, at, depth)
				}
			}
		})
	}
}

// P5.1: all rows of three and four operators, with one operand in front of each operand or without.
func TestRowsOfOperators(t *testing.T) {
	var signs []lexeme.Token
	for _, s := range []string{"||", "&&", "==", "!=", "<", "<=", ">", ">=", "+", "-", "*", "/", "%"} {
		signs = append(signs, sign(s))
	}
	for n := 1; n <= 4; n++ {
		combined(signs, n, func(signs []lexeme.Token) {
			l := list(name("a"))
			for i, s := range signs {
				l = append(l, s, name([]string{"b", "c", "d", "e"}[i]))
			}
			if e, _ := sameAsDefined(t, l, 0, 40); e != api.OK {
				t.Errorf("%s: %d", show(l), e)
			}
		})
	}
	r := rand.New(rand.NewPCG(1, 1))
	for range 5000 {
		var l []lexeme.Token
		for range 1 + r.IntN(25) {
			l = append(l, signs[r.IntN(len(signs))])
			for range r.IntN(3) {
				l = append(l, []lexeme.Token{sign("-"), sign("!")}[r.IntN(2)])
			}
			l = append(l, name("a"))
		}
		sameAsDefined(t, l, 1, r.IntN(42))
	}
}

// P5.1 and P5.2: lists that look random, most of whose tokens are such that the expression goes on, so that the limits are reached.
func TestRandomLists(t *testing.T) {
	found, foundInLists := map[api.Errno]int{}, map[api.Errno]int{}
	for seed := range uint64(8000) {
		r := rand.New(rand.NewPCG(seed, 2))
		l := randomTokens(r)
		e, _ := sameAsDefined(t, l, 0, r.IntN(r.IntN(60)+1))
		found[e]++
		_, e = sameAsDefined(t, slices.Concat(list(sign("(")), l, list(sign(","), name("a"), sign(")"))), 0, 0)
		foundInLists[e]++
	}
	for _, e := range []api.Errno{api.OK, api.ErrForm, api.ErrDeep} {
		if found[e] < 500 || foundInLists[e] < 500 {
			t.Errorf("the error %d was found by Parse %d times, and by List %d times only", e, found[e], foundInLists[e])
		}
	}
}

// randomTokens returns tokens of which each fits to those before it, in most cases.
func randomTokens(r *rand.Rand) []lexeme.Token {
	var l, closing []lexeme.Token
	begins := r.IntN(101)
	// add appends a token, and in few cases something else.
	add := func(x lexeme.Token) {
		l = append(l, x)
		if r.IntN(1500) == 0 {
			l = append(l, foreign()[r.IntN(40)])
		}
	}
	for range r.IntN(150) {
		switch {
		case r.IntN(100) < begins && len(closing) < 44:
			switch r.IntN(4) {
			case 0, 1:
				add(sign("("))
				closing = append(closing, sign(")"))
			case 2:
				add(name("a"))
				add(sign("["))
				closing = append(closing, sign("]"))
			default:
				add(sign([]string{"-", "!"}[r.IntN(2)]))
			}
			continue
		case r.IntN(4) == 0:
			for _, x := range list(keyword("len"), sign("("), name("a"), sign(")")) {
				add(x)
			}
		default:
			add(list(name("a"), name("b"), number("5"), keyword("true"), keyword("false"))[r.IntN(5)])
		}
		for len(closing) > 0 && r.IntN(100) < 60 {
			add(closing[len(closing)-1])
			closing = closing[:len(closing)-1]
		}
		add(sign([]string{"||", "&&", "==", "<", "+", "-", "*", "%"}[r.IntN(8)]))
	}
	if r.IntN(10) > 0 {
		add(name("a"))
		slices.Reverse(closing)
		l = append(l, closing...)
	}
	return l
}

// P5.1 and P5.2: lists that are cut off at each token, and read from each index.
func TestListsFromEachIndex(t *testing.T) {
	for seed := range uint64(60) {
		l := randomTokens(rand.New(rand.NewPCG(seed, 3)))
		for i := range len(l) + 1 {
			sameAsDefined(t, l[:i], 0, 0)
			sameAsDefined(t, l, i, 0)
		}
	}
}
