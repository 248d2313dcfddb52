package shape

import (
	"math"

	"rewind/api"
)

// How a field for a name is in the statements and expressions of a kind.
const (
	absent   = 0 // it is empty
	possible = 1 // it is empty, or a name
	needed   = 2 // it is a name
)

// exprKind is what the expressions of a kind have to have.
type exprKind struct {
	name            int   // Name: absent or needed
	firstOp, lastOp int   // Op: one of those from the first to the last
	most            int64 // Num: from 0 up to this number
	args            int   // Args: so many
}

// exprKinds are the kinds of expressions; there is none at 0.
var exprKinds = [...]exprKind{
	api.ENum:    {most: math.MaxInt64},
	api.EBool:   {most: 1},
	api.EVar:    {name: needed},
	api.EUnary:  {firstOp: api.Minus, lastOp: api.Not, args: 1},
	api.EBinary: {firstOp: api.Add, lastOp: api.Or, args: 2},
	api.EIndex:  {name: needed, args: 1},
	api.ELen:    {name: needed},
}

// stmtKind is what the statements of a kind have to have.
type stmtKind struct {
	name, callee int  // Name and Callee: absent, possible or needed
	typed        bool // Type: that of a variable
	fewest, most int  // Args: from so many up to so many
	body, other  bool // Body and Else: may have statements
}

// stmtKinds are the kinds of statements; there is none at 0.
var stmtKinds = [...]stmtKind{
	api.SVar:    {name: needed, typed: true, most: 1},
	api.SSet:    {name: needed, fewest: 1, most: 1},
	api.SStore:  {name: needed, fewest: 2, most: 2},
	api.SNew:    {name: needed, fewest: 1, most: 1},
	api.SRead:   {name: needed},
	api.SPrint:  {fewest: 1, most: 1},
	api.SCall:   {name: possible, callee: needed, most: api.MaxParams},
	api.SReturn: {most: 1},
	api.SIf:     {fewest: 1, most: 1, body: true, other: true},
	api.SWhile:  {fewest: 1, most: 1, body: true},
}

// fitsName reports whether a field for a name is as it has to be.
func fitsName(s string, how int) bool {
	if s == "" {
		return how != needed
	}
	return how != absent && Name(s)
}

// varType reports whether variables can have this type.
func varType(t int) bool { return api.Int <= t && t <= api.Array }

// fitsExpr reports whether the fields of an expression are as its kind has to have them, whatever stands in its Args.
func fitsExpr(e api.Expr) bool {
	if e.Kind < api.ENum || e.Kind > api.ELen {
		return false
	}
	k := exprKinds[e.Kind]
	return fitsName(e.Name, k.name) &&
		k.firstOp <= e.Op && e.Op <= k.lastOp &&
		0 <= e.Num && e.Num <= k.most &&
		len(e.Args) == k.args
}

// rightExprs reports whether all expressions have the right shape.
func rightExprs(list []api.Expr) bool {
	for _, e := range list {
		if Depth(e) == 0 {
			return false
		}
	}
	return true
}

// rightStmt reports whether a statement has the right shape, apart from its number and from what stands in its blocks.
func rightStmt(s api.Stmt) bool {
	if s.Kind < api.SVar || s.Kind > api.SWhile {
		return false
	}
	k := stmtKinds[s.Kind]
	return fitsName(s.Name, k.name) && fitsName(s.Callee, k.callee) &&
		(k.typed && varType(s.Type) || !k.typed && s.Type == api.None) &&
		k.fewest <= len(s.Args) && len(s.Args) <= k.most && rightExprs(s.Args) &&
		(k.body || len(s.Body) == 0) && (k.other || len(s.Else) == 0)
}

// rightStmts reports whether statements have the right shape, apart from their numbers, and are neither too many nor nested too deeply.
func rightStmts(list []api.Stmt) bool {
	return visit(list, func(_ int, s api.Stmt) bool { return rightStmt(s) })
}

// rightParams reports whether parameters are as they have to be.
func rightParams(list []api.Param) bool {
	if len(list) > api.MaxParams {
		return false
	}
	for _, p := range list {
		if !Name(p.Name) || !varType(p.Type) {
			return false
		}
	}
	return true
}

// rightFunc reports whether a function has the right shape, apart from its numbers.
func rightFunc(f api.Func) bool {
	return Name(f.Name) && rightParams(f.Params) && (f.Result == api.None || varType(f.Result)) && rightStmts(f.Body)
}
