package printer

import (
	"strconv"
	"strings"

	"rewind/api"
	"rewind/expr"
	"rewind/number"
	"rewind/stmt"
)

// form is how the heads of the statements of a kind are written. In it, N stands for the name, T for the word of the type, C for the callee, A for the first expression, B for the second one, and L for all of them, with commas; the words of the language have no capital letters.
type form struct {
	without string // the statement has no expression; or, if it is a call, no name
	with    string // it has one
}

// forms are the forms of all kinds of statements; there is none at 0.
var forms = [...]form{
	api.SVar:    {"var N T;", "var N T = A;"},
	api.SSet:    {with: "N = A;"},
	api.SStore:  {with: "N[A] = B;"},
	api.SNew:    {with: "N = new A;"},
	api.SRead:   {without: "read N;"},
	api.SPrint:  {with: "print A;"},
	api.SCall:   {"C(L);", "N = C(L);"},
	api.SReturn: {"return;", "return A;"},
	api.SIf:     {with: "if A"},
	api.SWhile:  {with: "while A"},
}

// formOf returns the form of a statement.
func formOf(s api.Stmt) string {
	has := len(s.Args) > 0
	if s.Kind == api.SCall {
		has = s.Name != ""
	}
	if has {
		return forms[s.Kind].with
	}
	return forms[s.Kind].without
}

// writer writes parts of a line, one behind the other.
type writer struct{ strings.Builder }

// head returns the head of a statement.
func head(s api.Stmt) string {
	var w writer
	for _, c := range formOf(s) {
		switch c {
		case 'N':
			w.write(s.Name)
		case 'T':
			w.write(stmt.Word(s.Type))
		case 'C':
			w.write(s.Callee)
		case 'A':
			w.expr(s.Args[0])
		case 'B':
			w.expr(s.Args[1])
		case 'L':
			commas(&w, s.Args, w.expr)
		default:
			w.WriteRune(c)
		}
	}
	return w.String()
}

// opening returns the first line of a function.
func opening(f api.Func) string {
	var w writer
	w.write("func ", f.Name, "(")
	commas(&w, f.Params, w.param)
	w.write(") ")
	if f.Result != api.None {
		w.write(stmt.Word(f.Result), " ")
	}
	w.write("{")
	return w.String()
}

// commas writes the elements of a list, with commas between them.
func commas[T any](w *writer, list []T, one func(T)) {
	for i, x := range list {
		if i > 0 {
			w.write(", ")
		}
		one(x)
	}
}

// write writes strings.
func (w *writer) write(parts ...string) {
	for _, s := range parts {
		w.WriteString(s)
	}
}

// param writes a parameter.
func (w *writer) param(p api.Param) { w.write(p.Name, " ", stmt.Word(p.Type)) }

// expr writes an expression.
func (w *writer) expr(e api.Expr) {
	switch e.Kind {
	case api.ENum:
		w.write(number.Text(e.Num))
	case api.EBool:
		w.write(strconv.FormatBool(e.Num == 1))
	case api.EVar:
		w.write(e.Name)
	case api.ELen:
		w.write("len(", e.Name, ")")
	case api.EUnary:
		w.write(expr.Sign(e.Op))
		w.operand(e.Args[0])
	case api.EBinary:
		w.operand(e.Args[0])
		w.write(" ", expr.Sign(e.Op), " ")
		w.operand(e.Args[1])
	case api.EIndex:
		w.write(e.Name, "[")
		w.expr(e.Args[0])
		w.write("]")
	}
}

// operand writes an operand, in parentheses if it is an operation itself.
func (w *writer) operand(e api.Expr) {
	if e.Kind != api.EUnary && e.Kind != api.EBinary {
		w.expr(e)
		return
	}
	w.write("(")
	w.expr(e)
	w.write(")")
}
