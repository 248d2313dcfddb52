package shape_test

import (
	"rewind/api"
)

// source makes numbers that look random, but are always the same.
type source struct{ state uint64 }

// random returns a source of its own for each seed.
func random(seed uint64) *source { return &source{seed*0x9e3779b97f4a7c15 + 1} }

// below returns a number from 0 to n - 1.
func (r *source) below(n int) int {
	r.state ^= r.state << 13
	r.state ^= r.state >> 7
	r.state ^= r.state << 17
	return int(r.state >> 33 % uint64(n))
}

// name returns a name.
func (r *source) name() string { return []string{"x", "y", "a_1", "Len", long}[r.below(5)] }

// expr returns an expression with the right shape and at most this depth.
func (r *source) expr(depth int) api.Expr {
	kind := 1 + r.below(7)
	for depth == 1 && (kind == api.EUnary || kind == api.EBinary || kind == api.EIndex) {
		kind = 1 + r.below(7)
	}
	switch kind {
	case api.ENum:
		return num(int64(r.below(1000)))
	case api.EBool:
		return truth(int64(r.below(2)))
	case api.EVar:
		return variable(r.name())
	case api.EUnary:
		return unary(api.Minus+r.below(2), r.expr(depth-1))
	case api.EBinary:
		return binary(api.Add+r.below(13), r.expr(depth-1), r.expr(depth-1))
	case api.EIndex:
		return index(r.name(), r.expr(depth-1))
	}
	return length(r.name())
}

// exprs returns so many expressions.
func (r *source) exprs(n int) []api.Expr {
	var l []api.Expr
	for range n {
		l = append(l, r.expr(3))
	}
	return l
}

// block returns statements with the right shape but for their numbers, nested at most so many levels.
func (r *source) block(levels int) []api.Stmt {
	l := []api.Stmt{}
	for range r.below(4) {
		l = append(l, r.stmt(levels))
	}
	return l
}

// stmt returns a statement with the right shape but for its numbers.
func (r *source) stmt(levels int) api.Stmt {
	s := api.Stmt{Kind: 1 + r.below(10), No: r.below(9) - 4}
	switch s.Kind {
	case api.SVar:
		s.Name, s.Type, s.Args = r.name(), 1+r.below(3), r.exprs(r.below(2))
	case api.SSet, api.SNew:
		s.Name, s.Args = r.name(), r.exprs(1)
	case api.SStore:
		s.Name, s.Args = r.name(), r.exprs(2)
	case api.SRead:
		s.Name = r.name()
	case api.SPrint:
		s.Args = r.exprs(1)
	case api.SCall:
		s.Callee, s.Args = r.name(), r.exprs(r.below(4))
		if r.below(2) == 0 {
			s.Name = r.name()
		}
	case api.SReturn:
		s.Args = r.exprs(r.below(2))
	case api.SIf, api.SWhile:
		s.Args = r.exprs(1)
		if levels > 1 {
			s.Body = r.block(levels - 1)
		}
		if levels > 1 && s.Kind == api.SIf {
			s.Else = r.block(levels - 1)
		}
	}
	return s
}

// program returns a program with the right shape but for its numbers.
func (r *source) program() api.Program {
	var p api.Program
	for range r.below(4) {
		p.Funcs = append(p.Funcs, api.Func{Name: r.name(), Params: params(r.below(4)), Result: r.below(4), Body: r.block(4), Count: r.below(5) - 2})
	}
	return p
}
