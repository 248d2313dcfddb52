package stmt

import (
	"rewind/api"
	"rewind/cursor"
	"rewind/expr"
	"rewind/lexeme"
)

// reader reads statements.
type reader struct {
	*cursor.Cursor
	depth int // the depth of the block that is read, or in which the statement stands that is read
}

// read lets a reader read a statement or a block, and returns it and the index behind it.
func read[T any](l []lexeme.Token, at, depth int, part func(*reader) T) (T, int, api.Errno) {
	if depth < 1 {
		var none T
		return none, 0, api.ErrRange
	}
	// All depths beyond the limit are alike, and one more than the greatest int is not greater.
	depth = min(depth, api.MaxDepth+1)
	return cursor.Read(l, at, func(c *cursor.Cursor) T { return part(&reader{c, depth}) })
}

// opening is a Keyword that begins a statement, and what reads this statement from behind the Keyword on.
type opening struct {
	word string
	read func(*reader) api.Stmt
}

// openings returns all Keywords that begin a statement.
func openings() [6]opening {
	return [...]opening{
		{"var", (*reader).declaration},
		{"read", (*reader).input},
		{"print", (*reader).output},
		{"return", (*reader).result},
		{"if", (*reader).branch},
		{"while", (*reader).loop},
	}
}

// block reads a block.
func (r *reader) block() []api.Stmt {
	r.Need(r.Sign() == "{")
	if r.depth > api.MaxDepth {
		r.Fail(r.At, api.ErrDeep)
	}
	r.At++
	var list []api.Stmt
	for r.Sign() != "}" {
		list = append(list, r.statement())
	}
	r.At++
	return list
}

// inner reads a block that stands in a statement.
func (r *reader) inner() []api.Stmt {
	r.depth++
	list := r.block()
	r.depth--
	return list
}

// statement reads a statement.
func (r *reader) statement() api.Stmt {
	word := r.Keyword()
	for _, o := range openings() {
		if o.word == word {
			r.At++
			return o.read(r)
		}
	}
	return r.named()
}

// closed returns a statement that ends with the next token.
func (r *reader) closed(s api.Stmt) api.Stmt {
	r.Pass(";")
	return s
}

// expression reads an expression.
func (r *reader) expression() api.Expr { return cursor.Take(r.Cursor, expr.Parse, 0) }

// one reads an expression, which is all that a statement has as Args.
func (r *reader) one() []api.Expr { return []api.Expr{r.expression()} }

// variableType reads the type of a variable.
func (r *reader) variableType() int {
	t := Type(r.Keyword())
	r.Need(t != api.None)
	r.At++
	return t
}

// declaration reads a variable's name and type, and its value if it has one.
func (r *reader) declaration() api.Stmt {
	s := api.Stmt{Kind: api.SVar, Name: r.Name(), Type: r.variableType()}
	if r.Sign() == "=" {
		r.At++
		s.Args = r.one()
	}
	return r.closed(s)
}

// input reads the variable that is read.
func (r *reader) input() api.Stmt {
	return r.closed(api.Stmt{Kind: api.SRead, Name: r.Name()})
}

// output reads the expression that is printed.
func (r *reader) output() api.Stmt {
	return r.closed(api.Stmt{Kind: api.SPrint, Args: r.one()})
}

// result reads what a function returns, if it returns anything.
func (r *reader) result() api.Stmt {
	s := api.Stmt{Kind: api.SReturn}
	if r.Sign() != ";" {
		s.Args = r.one()
	}
	return r.closed(s)
}

// branch reads a condition and a block, and the block behind else if there is one.
func (r *reader) branch() api.Stmt {
	s := api.Stmt{Kind: api.SIf, Args: r.one(), Body: r.inner()}
	if r.Keyword() == "else" {
		r.At++
		s.Else = r.inner()
	}
	return s
}

// loop reads a condition and a block.
func (r *reader) loop() api.Stmt {
	return api.Stmt{Kind: api.SWhile, Args: r.one(), Body: r.inner()}
}

// named reads a statement that begins with a Name.
func (r *reader) named() api.Stmt {
	name := r.Name()
	switch r.Sign() {
	case "=":
		r.At++
		return r.assignment(name)
	case "[":
		r.At++
		return r.store(name)
	}
	return r.closed(api.Stmt{Kind: api.SCall, Callee: name, Args: r.arguments()})
}

// arguments reads the arguments of a call.
func (r *reader) arguments() []api.Expr { return cursor.Take(r.Cursor, expr.List, 0) }

// assignment reads what a variable becomes: a new array, the result of a call, or the value of an expression.
func (r *reader) assignment(name string) api.Stmt {
	switch {
	case r.Keyword() == "new":
		r.At++
		return r.closed(api.Stmt{Kind: api.SNew, Name: name, Args: r.one()})
	case r.callee():
		return r.closed(api.Stmt{Kind: api.SCall, Name: name, Callee: r.Name(), Args: r.arguments()})
	}
	return r.closed(api.Stmt{Kind: api.SSet, Name: name, Args: r.one()})
}

// callee reports whether a call comes next: a Name with a ( behind it, which no expression has.
func (r *reader) callee() bool {
	behind := r.Token(1)
	return r.Token(0).Kind == lexeme.Name && behind.Kind == lexeme.Sign && behind.Text == "("
}

// store reads the index and the value of an element of an array.
func (r *reader) store(name string) api.Stmt {
	index := r.expression()
	r.Pass("]")
	r.Pass("=")
	return r.closed(api.Stmt{Kind: api.SStore, Name: name, Args: []api.Expr{index, r.expression()}})
}
