// Package cursor reads tokens one behind the other, for the layers that parse. What is wrong is a panic, which Read recovers.
package cursor

import (
	"rewind/api"
	"rewind/lexeme"
	"rewind/shape"
)

// mistake is an error, and the index of the token that is wrong. Whatever reads tokens panics with it.
type mistake struct {
	at  int
	err api.Errno
}

// Cursor is a list of tokens, and the index of the next one.
type Cursor struct {
	tokens []lexeme.Token
	At     int
}

// Read lets a cursor read a part, and returns it and the index behind it. All mistakes are recovered here.
func Read[T any](l []lexeme.Token, at int, part func(*Cursor) T) (result T, end int, err api.Errno) {
	if at < 0 || at > len(l) {
		return result, 0, api.ErrRange
	}
	defer func() {
		if m, ok := recover().(mistake); ok {
			end, err = m.at, m.err
		}
	}()
	c := &Cursor{tokens: l, At: at}
	result = part(c)
	return result, c.At, api.OK
}

// Take lets a cursor read a part that is read by a function of another layer, at a depth.
func Take[T any](c *Cursor, layer func(l []lexeme.Token, at, depth int) (T, int, api.Errno), depth int) T {
	part, end, err := layer(c.tokens, c.At, depth)
	if err != api.OK {
		c.Fail(end, err)
	}
	c.At = end
	return part
}

// List reads parts in parentheses, with a comma between two of them.
func List[T any](c *Cursor, part func() T) []T {
	var list []T
	c.Pass("(")
	if c.Sign() != ")" {
		list = append(list, part())
		for c.Sign() == "," {
			c.At++
			list = append(list, part())
		}
	}
	c.Pass(")")
	return list
}

// Fail ends all that Read began with an error, and the index of the token that is wrong.
func (c *Cursor) Fail(at int, err api.Errno) { panic(mistake{at, err}) }

// Need makes sure that the next token is one with which the part goes on.
func (c *Cursor) Need(ok bool) {
	if !ok {
		c.Fail(c.At, api.ErrForm)
	}
}

// Token returns the token that stands n places behind the next one; one without a kind if there is none.
func (c *Cursor) Token(n int) lexeme.Token {
	if c.At+n >= len(c.tokens) {
		return lexeme.Token{}
	}
	return c.tokens[c.At+n]
}

// More reports whether there is a next token.
func (c *Cursor) More() bool { return c.At < len(c.tokens) }

// Text returns the text of the next token if it is of this kind; otherwise an empty string, which is no token's text.
func (c *Cursor) Text(kind int) string {
	if t := c.Token(0); t.Kind == kind {
		return t.Text
	}
	return ""
}

// Sign returns the text of the next token if it is a Sign.
func (c *Cursor) Sign() string { return c.Text(lexeme.Sign) }

// Keyword returns the text of the next token if it is a Keyword.
func (c *Cursor) Keyword() string { return c.Text(lexeme.Keyword) }

// Pass goes behind a sign that has to be there.
func (c *Cursor) Pass(sign string) {
	c.Need(c.Sign() == sign)
	c.At++
}

// Name goes behind a Name that has to be there, and returns its text.
func (c *Cursor) Name() string {
	name := c.Text(lexeme.Name)
	c.Need(shape.Name(name))
	c.At++
	return name
}
