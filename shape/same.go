package shape

import (
	"slices"

	"rewind/api"
)

// SameExpr reports whether two expressions are equal.
func SameExpr(a, b api.Expr) bool {
	return Depth(a) != 0 && Depth(b) != 0 && equalExprs(a, b)
}

// SameStmt reports whether two statements are equal, whatever their numbers are.
func SameStmt(a, b api.Stmt) bool {
	return rightStmts([]api.Stmt{a}) && rightStmts([]api.Stmt{b}) && equalStmts(a, b)
}

// SameFunc reports whether two functions are equal.
func SameFunc(a, b api.Func) bool {
	return rightFunc(a) && rightFunc(b) && equalFuncs(a, b)
}

// Same reports whether two programs are equal.
func Same(a, b api.Program) bool {
	return Check(a) == api.OK && Check(b) == api.OK && slices.EqualFunc(a.Funcs, b.Funcs, equalFuncs)
}

// equalExprs compares two expressions with the right shape, which bounds how deep it goes.
func equalExprs(a, b api.Expr) bool {
	return a.Kind == b.Kind && a.Op == b.Op && a.Num == b.Num && a.Name == b.Name &&
		slices.EqualFunc(a.Args, b.Args, equalExprs)
}

// equalStmts compares two statements with the right shape but for their numbers.
func equalStmts(a, b api.Stmt) bool {
	return a.Kind == b.Kind && a.Name == b.Name && a.Type == b.Type && a.Callee == b.Callee &&
		slices.EqualFunc(a.Args, b.Args, equalExprs) &&
		slices.EqualFunc(a.Body, b.Body, equalStmts) &&
		slices.EqualFunc(a.Else, b.Else, equalStmts)
}

// equalFuncs compares two functions with the right shape but for their numbers.
func equalFuncs(a, b api.Func) bool {
	return a.Name == b.Name && a.Result == b.Result &&
		slices.Equal(a.Params, b.Params) &&
		slices.EqualFunc(a.Body, b.Body, equalStmts)
}
