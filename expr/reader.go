package expr

import (
	"rewind/api"
	"rewind/lexeme"
	"rewind/number"
	"rewind/shape"
)

// mistake is an error, and the index of the token that is wrong. Whatever reads tokens panics with it.
type mistake struct {
	at  int
	err api.Errno
}

// reader reads tokens one behind the other.
type reader struct {
	tokens []lexeme.Token
	at     int // the index of the next token
	nested int // its nesting
}

// read lets a reader read a part, and returns it and the index behind it. All mistakes are recovered here.
func read[T any](l []lexeme.Token, at, depth int, part func(*reader) T) (result T, end int, err api.Errno) {
	if at < 0 || at > len(l) || depth < 0 {
		return result, 0, api.ErrRange
	}
	defer func() {
		if m, ok := recover().(mistake); ok {
			end, err = m.at, m.err
		}
	}()
	r := &reader{tokens: l, at: at, nested: depth}
	result = part(r)
	return result, r.at, api.OK
}

// token returns the next token; one without a kind if there is none.
func (r *reader) token() lexeme.Token {
	if r.at == len(r.tokens) {
		return lexeme.Token{}
	}
	return r.tokens[r.at]
}

// sign returns the text of the next token if it is a Sign; otherwise an empty string, which is no sign.
func (r *reader) sign() string {
	if t := r.token(); t.Kind == lexeme.Sign {
		return t.Text
	}
	return ""
}

// need makes sure that the next token is one with which the part goes on.
func (r *reader) need(ok bool) {
	if !ok {
		panic(mistake{r.at, api.ErrForm})
	}
}

// pass goes behind a sign that has to be there.
func (r *reader) pass(sign string) {
	r.need(r.sign() == sign)
	r.at++
}

// open goes behind a token in which what follows is nested.
func (r *reader) open() {
	// The depth that was given may be as great as an int can be: it is compared before anything is added to it.
	if r.nested >= api.MaxNest {
		panic(mistake{r.at, api.ErrDeep})
	}
	r.nested++
	r.at++
}

// whole returns an expression that has become complete with the last token that was read.
func (r *reader) whole(e api.Expr) api.Expr {
	// All but its depth is right, since its parts are.
	if shape.Expr(e) != api.OK {
		panic(mistake{r.at - 1, api.ErrDeep})
	}
	return e
}

// list reads expressions in parentheses.
func (r *reader) list() []api.Expr {
	var list []api.Expr
	r.pass("(")
	if r.sign() != ")" {
		list = append(list, r.expression())
		for r.sign() == "," {
			r.at++
			list = append(list, r.expression())
		}
	}
	r.pass(")")
	return list
}

// expression reads an expression.
func (r *reader) expression() api.Expr { return r.climb(1) }

// climb reads an expression whose operators with two operands have at least this rank, apart from those in its operands.
func (r *reader) climb(least int) api.Expr {
	left := r.operand()
	for {
		op, rank := Op(r.sign())
		// What is no such operator has the rank 0.
		if rank < least {
			return left
		}
		r.at++
		right := r.climb(rank + 1)
		left = r.whole(api.Expr{Kind: api.EBinary, Op: op, Args: []api.Expr{left, right}})
	}
}

// operand reads an operand.
func (r *reader) operand() api.Expr {
	switch r.token().Kind {
	case lexeme.Number:
		return r.number()
	case lexeme.Name:
		return r.variable()
	case lexeme.Keyword:
		return r.keyword()
	}
	return r.signed()
}

// signed reads an operand that begins with a sign.
func (r *reader) signed() api.Expr {
	switch r.sign() {
	case "-":
		return r.unary(api.Minus)
	case "!":
		return r.unary(api.Not)
	}
	r.need(r.sign() == "(")
	return r.inner(")")
}

// leaf returns an expression of which the next token is the whole.
func (r *reader) leaf(e api.Expr) api.Expr {
	r.at++
	return e
}

// number reads a Number.
func (r *reader) number() api.Expr {
	n, e := number.Parse(r.token().Text)
	r.need(e == api.OK && n >= 0)
	return r.leaf(api.Expr{Kind: api.ENum, Num: n})
}

// name reads a Name.
func (r *reader) name() string {
	t := r.token()
	r.need(t.Kind == lexeme.Name && shape.Name(t.Text))
	r.at++
	return t.Text
}

// variable reads a Name, and its index if it has one.
func (r *reader) variable() api.Expr {
	name := r.name()
	if r.sign() != "[" {
		return api.Expr{Kind: api.EVar, Name: name}
	}
	index := r.inner("]")
	return r.whole(api.Expr{Kind: api.EIndex, Name: name, Args: []api.Expr{index}})
}

// keyword reads an operand that begins with a Keyword.
func (r *reader) keyword() api.Expr {
	switch r.token().Text {
	case "true":
		return r.leaf(api.Expr{Kind: api.EBool, Num: 1})
	case "false":
		return r.leaf(api.Expr{Kind: api.EBool})
	}
	return r.length()
}

// length reads the Keyword len, and a name in parentheses. These do not count as nesting.
func (r *reader) length() api.Expr {
	r.need(r.token().Text == "len")
	r.at++
	r.pass("(")
	name := r.name()
	r.pass(")")
	return api.Expr{Kind: api.ELen, Name: name}
}

// unary reads the sign of an operator with one operand, and this operand.
func (r *reader) unary(op int) api.Expr {
	r.open()
	e := r.operand()
	r.nested--
	return r.whole(api.Expr{Kind: api.EUnary, Op: op, Args: []api.Expr{e}})
}

// inner reads a sign that opens, an expression, and the sign that closes it.
func (r *reader) inner(last string) api.Expr {
	r.open()
	e := r.expression()
	r.pass(last)
	r.nested--
	return e
}
