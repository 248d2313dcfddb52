package expr

import (
	"rewind/api"
	"rewind/cursor"
	"rewind/lexeme"
	"rewind/number"
	"rewind/shape"
)

// reader reads expressions.
type reader struct {
	*cursor.Cursor
	nested int // the nesting of the next token
}

// read lets a reader read a part, and returns it and the index behind it.
func read[T any](l []lexeme.Token, at, depth int, part func(*reader) T) (T, int, api.Errno) {
	if depth < 0 {
		var none T
		return none, 0, api.ErrRange
	}
	return cursor.Read(l, at, func(c *cursor.Cursor) T { return part(&reader{c, depth}) })
}

// open goes behind a token in which what follows is nested.
func (r *reader) open() {
	// The depth that was given may be as great as an int can be: it is compared before anything is added to it.
	if r.nested >= api.MaxNest {
		r.Fail(r.At, api.ErrDeep)
	}
	r.nested++
	r.At++
}

// whole returns an expression that has become complete with the last token that was read.
func (r *reader) whole(e api.Expr) api.Expr {
	// All but its depth is right, since its parts are.
	if shape.Expr(e) != api.OK {
		r.Fail(r.At-1, api.ErrDeep)
	}
	return e
}

// list reads expressions in parentheses.
func (r *reader) list() []api.Expr { return cursor.List(r.Cursor, r.expression) }

// expression reads an expression.
func (r *reader) expression() api.Expr { return r.climb(1) }

// climb reads an expression whose operators with two operands have at least this rank, apart from those in its operands.
func (r *reader) climb(least int) api.Expr {
	left := r.operand()
	for {
		op, rank := Op(r.Sign())
		// What is no such operator has the rank 0.
		if rank < least {
			return left
		}
		r.At++
		right := r.climb(rank + 1)
		left = r.whole(api.Expr{Kind: api.EBinary, Op: op, Args: []api.Expr{left, right}})
	}
}

// operand reads an operand.
func (r *reader) operand() api.Expr {
	switch r.Token(0).Kind {
	case lexeme.Number:
		return r.number()
	case lexeme.Name:
		return r.variable()
	case lexeme.Keyword:
		return r.keyword()
	}
	return r.signed()
}

// signed reads an operand that begins with a sign.
func (r *reader) signed() api.Expr {
	switch r.Sign() {
	case "-":
		return r.unary(api.Minus)
	case "!":
		return r.unary(api.Not)
	}
	r.Need(r.Sign() == "(")
	return r.inner(")")
}

// leaf returns an expression of which the next token is the whole.
func (r *reader) leaf(e api.Expr) api.Expr {
	r.At++
	return e
}

// number reads a Number.
func (r *reader) number() api.Expr {
	n, e := number.Parse(r.Token(0).Text)
	r.Need(e == api.OK && n >= 0)
	return r.leaf(api.Expr{Kind: api.ENum, Num: n})
}

// variable reads a Name, and its index if it has one.
func (r *reader) variable() api.Expr {
	name := r.Name()
	if r.Sign() != "[" {
		return api.Expr{Kind: api.EVar, Name: name}
	}
	index := r.inner("]")
	return r.whole(api.Expr{Kind: api.EIndex, Name: name, Args: []api.Expr{index}})
}

// keyword reads an operand that begins with a Keyword.
func (r *reader) keyword() api.Expr {
	switch r.Keyword() {
	case "true":
		return r.leaf(api.Expr{Kind: api.EBool, Num: 1})
	case "false":
		return r.leaf(api.Expr{Kind: api.EBool})
	}
	return r.length()
}

// length reads the Keyword len, and a name in parentheses. These do not count as nesting.
func (r *reader) length() api.Expr {
	r.Need(r.Keyword() == "len")
	r.At++
	r.Pass("(")
	name := r.Name()
	r.Pass(")")
	return api.Expr{Kind: api.ELen, Name: name}
}

// unary reads the sign of an operator with one operand, and this operand.
func (r *reader) unary(op int) api.Expr {
	r.open()
	e := r.operand()
	r.nested--
	return r.whole(api.Expr{Kind: api.EUnary, Op: op, Args: []api.Expr{e}})
}

// inner reads a sign that opens, an expression, and the sign that closes it.
func (r *reader) inner(last string) api.Expr {
	r.open()
	e := r.expression()
	r.Pass(last)
	r.nested--
	return e
}
