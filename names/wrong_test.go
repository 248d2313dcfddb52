package names_test

import (
	"math"
	"reflect"
	"slices"
	"strings"
	"testing"

	"rewind/api"
	"rewind/shape"
)

// everything has statements of all kinds, most of them in blocks.
const everything = `
	var c int;
	if c < -b[1] {
		var d array;
		read c;
		d[c] = len(d);
		while !true {
			var e bool = a == 1;
			d = new 1;
			print c;
		}
	} else {
		c = g(a, b);
		var h int = 2;
		c = h + 1;
		return c;
	}`

// wide returns the function with these statements, and two parameters.
func wide(t *testing.T) api.Func { return function(t, "(a int, b array) int", everything) }

// P10.1: the function that is changed below is right.
func TestEverything(t *testing.T) {
	f := wide(t)
	of(t, f, v("a", 1, -1, 0, 14), v("b", 3, -1, 0, 14), v("c", 1, 0, 1, 14), v("d", 3, 2, 3, 9), v("e", 2, 6, 7, 9), v("h", 1, 10, 11, 13))
	matches(t, f)
}

// statement returns the statement of a function with a number.
func statement(t *testing.T, f *api.Func, no int) *api.Stmt {
	t.Helper()
	var found *api.Stmt
	var visit func(l []api.Stmt)
	visit = func(l []api.Stmt) {
		for i := range l {
			if l[i].No == no {
				found = &l[i]
			}
			visit(l[i].Body)
			visit(l[i].Else)
		}
	}
	if visit(f.Body); found == nil {
		t.Fatal(no)
	}
	return found
}

// wrongNames are no names.
var wrongNames = append(strings.Fields("1a _a a-b len func var if else while return print read new int bool array true false abcdefghijklmnopq a; \u00e4"), "", " ", "a ", "\x00")

// P10.1: a function with one field that is wrong is ErrArg, with the number 0.
func TestWrongFields(t *testing.T) {
	const varNo, laterNo = 2, 6
	change := func(do func(f *api.Func)) {
		t.Helper()
		f := wide(t)
		do(&f)
		fails(t, f, 0, api.ErrArg)
	}
	changeStmt := func(no int, do func(s *api.Stmt)) {
		t.Helper()
		change(func(f *api.Func) { do(statement(t, f, no)) })
	}
	for _, s := range wrongNames {
		change(func(f *api.Func) { f.Name = s })
		change(func(f *api.Func) { f.Params[1].Name = s })
		changeStmt(varNo, func(x *api.Stmt) { x.Name = s })
	}
	for _, n := range []int{math.MinInt, -1, 4, 1 << 32, math.MaxInt} {
		change(func(f *api.Func) { f.Result = n })
		change(func(f *api.Func) { f.Params[0].Type = n })
		changeStmt(varNo, func(s *api.Stmt) { s.Type = n })
	}
	change(func(f *api.Func) { f.Params[0].Type = api.None })
	changeStmt(varNo, func(s *api.Stmt) { s.Type = api.None })
	change(func(f *api.Func) { f.Params = params(9) })
	for _, n := range []int{math.MinInt, -1, 0, 12, 14, 200, 13 + 1<<32, math.MaxInt} {
		change(func(f *api.Func) { f.Count = n })
	}
	for no := range 13 {
		for _, n := range []int{math.MinInt, -1, no - 1, no + 1, 13, no + 1<<32, math.MaxInt} {
			changeStmt(no, func(s *api.Stmt) { s.No = n })
		}
		changeStmt(no, func(s *api.Stmt) { s.Kind = 0 })
		changeStmt(no, func(s *api.Stmt) { s.Kind = 11 })
		changeStmt(no, func(s *api.Stmt) { s.Args = append(s.Args, api.Expr{}) })
		if no != 1 && no != 5 {
			changeStmt(no, func(s *api.Stmt) { s.Body = block(read()) })
			changeStmt(no, func(s *api.Stmt) { s.Else = block(read()) })
		}
	}
	changeStmt(varNo, func(s *api.Stmt) { s.Callee = "f" })
	changeStmt(laterNo, func(s *api.Stmt) { s.Args = append(s.Args, s.Args...) })
	changeStmt(laterNo, func(s *api.Stmt) { s.Args[0].Num = 1 })
	changeStmt(laterNo, func(s *api.Stmt) { s.Args[0].Args[1].Num = -1 })
	changeStmt(laterNo, func(s *api.Stmt) { s.Args[0].Args[0].Name = "if" })
	change(func(f *api.Func) { f.Body = nil })
	change(func(f *api.Func) { f.Body = f.Body[:1] })
	change(func(f *api.Func) { f.Body = f.Body[1:] })
	fails(t, api.Func{}, 0, api.ErrArg)
	fails(t, api.Func{Name: "f", Count: 1}, 0, api.ErrArg)
	fails(t, api.Func{Name: "f", Body: row(0, 1)}, 0, api.ErrArg)
	fails(t, api.Func{Body: row(0, 1), Count: 1}, 0, api.ErrArg)
	of(t, api.Func{Name: "f"})
}

// A declaration has no blocks, even if all numbers are right.
func TestWrongBlocks(t *testing.T) {
	s := declare("x", api.Int)
	matches(t, built(nil, s, read()))
	for _, b := range [][2][]api.Stmt{{nil, row(0, 1)}, {row(0, 1), nil}, {row(0, 1), row(1, 1)}} {
		s.Body, s.Else = b[0], b[1]
		fails(t, built(nil, s, read()), 0, api.ErrArg)
		fails(t, built(nil, loop(s)), 0, api.ErrArg)
	}
}

// changes gives one field after the other other values, at any depth of v, and calls look each time; then the field is as before.
func changes(v reflect.Value, look func()) {
	try := func(x any) {
		before := reflect.ValueOf(v.Interface())
		v.Set(reflect.ValueOf(x).Convert(v.Type()))
		look()
		v.Set(before)
	}
	switch v.Kind() {
	case reflect.Int, reflect.Int64:
		for n := -1; n <= 17; n++ {
			try(n)
		}
		for _, n := range []int64{math.MinInt64, v.Int() - 1, v.Int() + 1, v.Int() + 1<<32, 200, 201, math.MaxInt64} {
			try(n)
		}
	case reflect.String:
		for _, s := range append(wrongNames, "a", "b", "c", "d", "e", "h", "z", "abcdefghijklmnop") {
			try(s)
		}
	case reflect.Slice:
		try(reflect.Zero(v.Type()).Interface())
		for i := range v.Len() {
			try(v.Slice(0, i).Interface())
			try(v.Slice(i+1, v.Len()).Interface())
		}
		try(reflect.AppendSlice(v.Slice3(0, v.Len(), v.Len()), v).Interface())
		try(reflect.Append(v.Slice3(0, v.Len(), v.Len()), reflect.Zero(v.Type().Elem())).Interface())
		for i := range v.Len() {
			changes(v.Index(i), look)
		}
	case reflect.Struct:
		for i := range v.NumField() {
			changes(v.Field(i), look)
		}
	}
}

// P10.1: each field has each of many values; if the shape is no longer right, it is ErrArg and 0, and otherwise what is defined for the function.
func TestEachField(t *testing.T) {
	f := wide(t)
	count := map[api.Errno]int{}
	changes(reflect.ValueOf(&f).Elem(), func() {
		want := definition{err: api.ErrArg}
		if shape.Check(api.Program{Funcs: []api.Func{f}}) == api.OK {
			want = defined(f)
		}
		count[want.err]++
		if want.err == api.OK {
			of(t, f, want.vars...)
		} else {
			fails(t, f, want.no, want.err)
		}
	})
	if count[api.OK] < 100 || count[api.ErrName] < 20 || count[api.ErrArg] < 2000 {
		t.Errorf("%v", count)
	}
	if !reflect.DeepEqual(f, wide(t)) {
		t.Errorf("%+v", f)
	}
}

// P10.1: a function whose shape is not right is ErrArg and 0, also if its names, or how many they are, would be wrong.
func TestShapeComesFirst(t *testing.T) {
	for _, f := range []api.Func{
		built([]api.Param{param("a", 1), param("a", 1)}, row(0, 60)...),
		built(params(1), append(row(0, 3), row(0, 3)...)...),
		built(params(3), row(0, 48)...),
	} {
		if d := defined(f); d.err == api.OK {
			t.Fatalf("%v", d)
		}
		matches(t, f)
		g := f
		g.Count++
		fails(t, g, 0, api.ErrArg)
		g = f
		g.Result = 4
		fails(t, g, 0, api.ErrArg)
		fails(t, built(f.Params, append(slices.Clone(f.Body), declare("1", 1))...), 0, api.ErrArg)
		g = f
		g.Params = append(slices.Clone(g.Params), param("z", 0))
		fails(t, g, 0, api.ErrArg)
	}
}

// P10.1, with P1: what has itself as a part has not the right shape, and Of ends.
func TestPartsOfThemselves(t *testing.T) {
	for _, s := range []api.Stmt{loop(), branch(nil, nil)} {
		l := block(declare("x", 1), s)
		l[1].No = 1
		l[1].Body = l
		fails(t, api.Func{Name: "f", Body: l, Count: 2}, 0, api.ErrArg)
		l = block(branch(nil, nil))
		l[0].Else = l
		fails(t, api.Func{Name: "f", Body: l, Count: 1}, 0, api.ErrArg)
	}
	args := []api.Expr{{Kind: api.EUnary, Op: api.Not}}
	args[0].Args = args
	s := declare("x", 1)
	s.Args = args
	fails(t, api.Func{Name: "f", Body: block(s), Count: 1}, 0, api.ErrArg)
}
