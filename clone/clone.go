// Package clone copies parts of programs into new memory, for the layers that return them. What it copies must have the right shape (its numbers do not matter): what has itself as a part would have no end.
package clone

import (
	"slices"

	"rewind/api"
)

// Func returns a function in new memory.
func Func(f api.Func) api.Func {
	f.Params = slices.Clone(f.Params)
	f.Body = stmts(f.Body)
	return f
}

// Stmt returns a statement in new memory.
func Stmt(s api.Stmt) api.Stmt {
	s.Args = exprs(s.Args)
	s.Body = stmts(s.Body)
	s.Else = stmts(s.Else)
	return s
}

// stmts returns statements in new memory.
func stmts(list []api.Stmt) []api.Stmt {
	list = slices.Clone(list)
	for i, s := range list {
		list[i] = Stmt(s)
	}
	return list
}

// exprs returns expressions in new memory.
func exprs(list []api.Expr) []api.Expr {
	list = slices.Clone(list)
	for i, e := range list {
		list[i].Args = exprs(e.Args)
	}
	return list
}
