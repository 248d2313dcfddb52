package parse

import (
	"rewind/api"
	"rewind/cursor"
	"rewind/lexeme"
	"rewind/shape"
	"rewind/stmt"
)

// reader reads functions.
type reader struct{ *cursor.Cursor }

// read lets a reader read a part, and returns it and the index behind it.
func read[T any](l []lexeme.Token, at int, part func(*reader) T) (T, int, api.Errno) {
	return cursor.Read(l, at, func(c *cursor.Cursor) T { return part(&reader{c}) })
}

// functions reads functions up to the last token.
func (r *reader) functions() []api.Func {
	var list []api.Func
	for r.More() {
		if len(list) == api.MaxFuncs {
			r.Fail(r.At, api.ErrMany)
		}
		list = append(list, r.function())
	}
	return list
}

// function reads a function that is not too large.
func (r *reader) function() api.Func {
	start := r.At
	p := shape.Number(api.Program{Funcs: []api.Func{r.whole()}})
	// All of the function has the right shape, but there may be too much of it: then it gets no numbers.
	if len(p.Funcs) == 0 {
		r.Fail(start, api.ErrMany)
	}
	return p.Funcs[0]
}

// whole reads a function, as large as it is, without numbers.
func (r *reader) whole() api.Func {
	r.Need(r.Keyword() == "func")
	r.At++
	return api.Func{
		Name:   r.Name(),
		Params: cursor.List(r.Cursor, r.parameter),
		Result: r.possibleType(),
		Body:   cursor.Take(r.Cursor, stmt.Block, 1),
	}
}

// parameter reads a name and a type.
func (r *reader) parameter() api.Param {
	p := api.Param{Name: r.Name(), Type: r.possibleType()}
	r.Need(p.Type != api.None)
	return p
}

// possibleType goes behind a type if one comes next, and returns it; None if none does.
func (r *reader) possibleType() int {
	t := stmt.Type(r.Keyword())
	if t != api.None {
		r.At++
	}
	return t
}
