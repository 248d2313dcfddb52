package names_test

import (
	"fmt"
	"reflect"
	"slices"
	"testing"

	"rewind/api"
	"rewind/names"
	"rewind/points"
)

// functions returns functions of many forms: small ones, random ones, and large ones.
func functions(t *testing.T) []api.Func {
	l := []api.Func{built(params(8), row(0, 42)...), built(nil, inMany(row(0, 50))...), built(params(2), inHalves(row(0, 48))...)}
	return slices.Concat(l, small(t, "(a bool)", 3), randomFuncs(300, 3))
}

// known is a function with its variables.
type known struct {
	f    api.Func
	vars []names.Var
}

// right returns those of the functions whose variables are right.
func right(t *testing.T) []known {
	t.Helper()
	var all []known
	for _, f := range functions(t) {
		if l, _, e := names.Of(f); e == api.OK {
			all = append(all, known{f, l})
		}
	}
	if len(all) < 100 {
		t.Fatalf("only %d functions", len(all))
	}
	return all
}

// place is a block of a function: the statement around it, and whether it is its Else; -1 for the function's own.
type place struct {
	parent int
	other  bool
}

// blockOf returns the block of a statement.
func blockOf(t *testing.T, f api.Func, no int) place {
	t.Helper()
	parent, nested, e := points.Parent(f, no)
	if e != api.OK {
		t.Fatal(no, e)
	}
	if !nested {
		return place{parent: -1}
	}
	s, _ := points.At(f, parent)
	return place{parent, slices.ContainsFunc(s.Else, func(s api.Stmt) bool { return s.No == no })}
}

// stands returns the blocks in which a point stands, from inside outwards, each with the number of the statement that stands there.
func stands(t *testing.T, f api.Func, point int) map[place]int {
	t.Helper()
	if point == f.Count {
		return map[place]int{{parent: -1}: point}
	}
	m := map[place]int{}
	for {
		b := blockOf(t, f, point)
		m[b] = point
		if b.parent < 0 {
			return m
		}
		point = b.parent
	}
}

// P10.3: a parameter is in scope everywhere; a variable of a statement is so just where the statement stands in front of the point, or in front of a statement around it, in the same block.
func TestScopesAreBlocks(t *testing.T) {
	for _, g := range right(t) {
		f, l := g.f, g.vars
		if f.Count > 60 {
			continue
		}
		blocks := map[int]place{}
		for _, x := range l {
			if x.No >= 0 {
				blocks[x.No] = blockOf(t, f, x.No)
			}
		}
		for point := range f.Count + 1 {
			around := stands(t, f, point)
			got := names.In(l, point)
			for i, x := range l {
				want := true
				if x.No >= 0 {
					no, ok := around[blocks[x.No]]
					want = ok && x.No < no
				}
				if slices.Contains(got, i) != want {
					t.Fatalf("%v at %d: %v; %+v", x, point, got, f)
				}
			}
		}
		in(t, l, -1)
		in(t, l, f.Count+1)
	}
}

// P10.4: the names are all different; Find finds each, and Seen does so just where it is in scope.
func TestNamesAreDifferent(t *testing.T) {
	for _, g := range right(t) {
		f, l := g.f, g.vars
		had := map[string]bool{}
		for i, x := range l {
			if had[x.Name] {
				t.Fatalf("%s is there twice: %v", x.Name, l)
			}
			had[x.Name] = true
			find(t, l, x.Name, i)
		}
		for point := -1; point <= f.Count+1; point++ {
			scope := names.In(l, point)
			for i, x := range l {
				if slices.Contains(scope, i) {
					seen(t, l, x.Name, point, i)
				} else {
					seen(t, l, x.Name, point, -1)
				}
			}
		}
		if len(had) != len(l) || len(l) > 50 {
			t.Fatalf("%v", l)
		}
	}
}

// P10.1: From and To have numbers of points of the function, and declarations are in order.
func TestOrderOfDeclarations(t *testing.T) {
	for _, g := range right(t) {
		f, l := g.f, g.vars
		for i, x := range l {
			if i < len(f.Params) {
				if x.No != -1 || x.From != 0 || x.To != f.Count+1 || x.Name != f.Params[i].Name || x.Type != f.Params[i].Type {
					t.Fatalf("%v in %+v", x, f)
				}
				continue
			}
			s, e := points.At(f, x.No)
			if e != api.OK || s.Kind != api.SVar || s.Name != x.Name || s.Type != x.Type || x.From != x.No+1 || x.To < x.From || x.To > f.Count+1 {
				t.Fatalf("%v in %+v", x, f)
			}
			if i > 0 && l[i-1].No >= x.No {
				t.Fatalf("%v in front of %v", l[i-1], x)
			}
		}
	}
}

// others are expressions of all kinds.
var others = []api.Expr{
	{Kind: api.ENum, Num: 7},
	{Kind: api.EBool, Num: 1},
	{Kind: api.EVar, Name: "v1"},
	{Kind: api.ELen, Name: "x"},
	{Kind: api.EIndex, Name: "y", Args: condition},
	{Kind: api.EUnary, Op: api.Not, Args: condition},
	{Kind: api.EBinary, Op: api.Or, Args: []api.Expr{condition[0], condition[0]}},
}

// P10.5: expressions and other statements become other ones, but their blocks stay; so do the variables, or what is wrong with them.
func TestOtherStatementsDoNotMatter(t *testing.T) {
	for i, f := range functions(t) {
		r := random(uint64(i), 5)
		l, no, e := names.Of(f)
		args := func(n int) []api.Expr {
			var l []api.Expr
			for range n {
				l = append(l, others[r.IntN(len(others))])
			}
			return l
		}
		other := func(s api.Stmt) api.Stmt {
			switch {
			case s.Kind == api.SVar:
				s.Args = args(r.IntN(2))
				return s
			case len(s.Else) > 0:
				return branch(s.Body, s.Else)
			case len(s.Body) > 0 && r.IntN(3) == 0:
				return branch(s.Body, nil)
			case len(s.Body) > 0 && r.IntN(2) == 0:
				return branch(nil, s.Body)
			case len(s.Body) > 0:
				return api.Stmt{Kind: api.SWhile, Args: args(1), Body: s.Body}
			}
			name := []string{"x", "v1", "p0", "nowhere"}[r.IntN(4)]
			return []api.Stmt{
				{Kind: api.SSet, Name: name, Args: args(1)},
				{Kind: api.SStore, Name: name, Args: args(2)},
				{Kind: api.SNew, Name: name, Args: args(1)},
				{Kind: api.SRead, Name: name},
				{Kind: api.SPrint, Args: args(1)},
				{Kind: api.SCall, Name: name, Callee: name, Args: args(r.IntN(9))},
				{Kind: api.SCall, Callee: name},
				{Kind: api.SReturn, Args: args(r.IntN(2))},
				{Kind: api.SIf, Args: args(1)},
				{Kind: api.SWhile, Args: args(1)},
			}[r.IntN(10)]
		}
		var changed func(l []api.Stmt) []api.Stmt
		changed = func(l []api.Stmt) []api.Stmt {
			var result []api.Stmt
			for _, s := range l {
				s.Body, s.Else = changed(s.Body), changed(s.Else)
				result = append(result, other(s))
			}
			return result
		}
		g := built(f.Params, changed(f.Body)...)
		g.Name, g.Result = "another", r.IntN(4)
		got, gotNo, gotErr := names.Of(g)
		if !slices.Equal(got, l) || gotNo != no || gotErr != e {
			t.Fatalf("%v, %d, %d; want %v, %d, %d\n%+v\n%+v", got, gotNo, gotErr, l, no, e, f, g)
		}
	}
}

// R4 and R8: no argument changes, equal calls return equal results, and a result is new memory.
func TestArgumentsStay(t *testing.T) {
	for _, f := range append(functions(t), api.Func{}, built(nil, row(0, 201)...)) {
		before := fmt.Sprintf("%+v", f)
		one, no, e := names.Of(f)
		two, again, g := names.Of(f)
		want := slices.Clone(two)
		if !slices.Equal(one, two) || no != again || e != g {
			t.Fatalf("%v, %d, %d; %v, %d, %d", one, no, e, two, again, g)
		}
		clear(one)
		_ = append(one, names.Var{})
		if fmt.Sprintf("%+v", f) != before || !slices.Equal(two, want) {
			t.Fatalf("%s became %+v", before, f)
		}
	}
	f := wide(t)
	l, _, _ := names.Of(f)
	want := slices.Clone(l)
	clear(f.Params)
	clear(f.Body[1].Body)
	clear(f.Body)
	if !slices.Equal(l, want) {
		t.Errorf("%v; want %v", l, want)
	}
}

// R4: what stands behind the length of a slice is neither read nor written.
func TestBehindTheLength(t *testing.T) {
	f := function(t, "(a int, b int)", "if true { var c int; var d int; } else { var e int; var a int; } while true { var h int; } var i int;")
	f.Params = f.Params[:1]
	f.Body = f.Body[:2]
	f.Body[0].Body, f.Body[0].Else, f.Body[1].Body = f.Body[0].Body[:1], f.Body[0].Else[:1], f.Body[1].Body[:0]
	f.Body[0].Else[0].No, f.Body[1].No, f.Count = 2, 3, 4
	behind := func() string {
		return fmt.Sprint(f.Params[:2], f.Body[:3], f.Body[0].Body[:2], f.Body[0].Else[:2], f.Body[1].Body[:1])
	}
	before := behind()
	of(t, f, v("a", 1, -1, 0, 5), v("c", 1, 1, 2, 2), v("e", 1, 2, 3, 3))
	if after := behind(); after != before {
		t.Errorf("%s became %s", before, after)
	}
}

// emptied makes nil slices empty ones, at any depth of v.
func emptied(v reflect.Value) {
	switch v.Kind() {
	case reflect.Slice:
		if v.IsNil() {
			v.Set(reflect.MakeSlice(v.Type(), 0, 0))
		}
		for i := range v.Len() {
			emptied(v.Index(i))
		}
	case reflect.Struct:
		for i := range v.NumField() {
			emptied(v.Field(i))
		}
	}
}

// R3: nil and empty slices are the same.
func TestNilAndEmptySlices(t *testing.T) {
	for _, f := range functions(t) {
		l, no, e := names.Of(f)
		emptied(reflect.ValueOf(&f).Elem())
		if got, gotNo, gotErr := names.Of(f); !slices.Equal(got, l) || gotNo != no || gotErr != e {
			t.Fatalf("%v, %d, %d; want %v, %d, %d", got, gotNo, gotErr, l, no, e)
		}
	}
}
