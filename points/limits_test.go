package points_test

import (
	"slices"
	"testing"

	"rewind/api"
	"rewind/points"
)

// row returns statements that stand one behind the other.
func row(n int) []api.Stmt { return slices.Repeat(block(read()), n) }

// tower puts a block into so many statements, one around the other, in ways that take turns.
func tower(levels int, inner []api.Stmt, around ...func(l []api.Stmt) []api.Stmt) []api.Stmt {
	for i := range levels {
		inner = around[i%len(around)](inner)
	}
	return inner
}

// Ways to put a block into a statement, with or without others beside it:

func inLoop(l []api.Stmt) []api.Stmt  { return block(loop(l...)) }
func inBody(l []api.Stmt) []api.Stmt  { return block(branch(l, nil)) }
func inElse(l []api.Stmt) []api.Stmt  { return block(branch(nil, l)) }
func inFirst(l []api.Stmt) []api.Stmt { return block(loop(l...), read()) }
func inLast(l []api.Stmt) []api.Stmt  { return block(read(), branch(l, row(1))) }

// P9.2 to P9.5: blocks nested to the depth 20, of one kind each: the innermost statement has 19 parents.
func TestNestedLoops(t *testing.T) {
	f := built(tower(19, row(1), inLoop)...)
	for no := range 20 {
		want := no - 1
		if no == 0 {
			want = 20
		}
		got, e := points.After(f, no)
		point(t, "After", no, got, e, want)
		got, e = points.Depth(f, no)
		point(t, "Depth", no, got, e, no)
		got, e = points.Last(f, no)
		point(t, "Last", no, got, e, 19)
		if p, ok, e := points.Parent(f, no); p != max(no-1, 0) || ok != (no > 0) || e != api.OK {
			t.Errorf("Parent of %d = %d, %v, %d", no, p, ok, e)
		}
		if no < 19 {
			enter(t, f, no, no+1, want)
		}
	}
	noEnter(t, f, 19)
}

// P9.2 to P9.5
func TestNestedBranches(t *testing.T) {
	for _, around := range []func([]api.Stmt) []api.Stmt{inBody, inElse} {
		for _, behind := range [][]api.Stmt{nil, row(1)} {
			f := built(append(tower(19, row(1), around), behind...)...)
			for no := range 20 {
				got, e := points.After(f, no)
				point(t, "After", no, got, e, 20)
				got, e = points.Depth(f, no)
				point(t, "Depth", no, got, e, no)
				if no < 19 && len(f.Body[0].Body) > 0 {
					enter(t, f, no, no+1, 20)
				} else if no < 19 {
					enter(t, f, no, 20, no+1)
				}
			}
			got, e := points.Last(f, 0)
			point(t, "Last", 0, got, e, f.Count-1)
			got, e = points.Last(f, 1)
			point(t, "Last", 1, got, e, 19)
			matches(t, f)
		}
	}
}

// P9.1 to P9.5: blocks nested to the depth 20, of kinds that change, with statements with empty blocks innermost.
func TestNestedToTheLimit(t *testing.T) {
	ways := []func([]api.Stmt) []api.Stmt{inLoop, inBody, inElse, inFirst, inLast}
	for i, one := range ways {
		for k, two := range ways {
			third := ways[(i+2*k)%5]
			for _, inner := range [][]api.Stmt{row(1), row(3), inLoop(nil), inBody(nil), inFirst(nil), block(read(), branch(nil, nil))} {
				f := built(tower(19, inner, one, two, third)...)
				matches(t, f)
				f = built(tower(20, inner, one, two, third)...)
				fails(t, f, 0, api.ErrArg)
				nothing(t, f)
			}
		}
	}
}

// P9.2 and P9.3: at the greatest depth, the innermost statement may be one whose blocks are empty.
func TestEmptyBlocksAtTheLimit(t *testing.T) {
	f := built(tower(19, inLoop(nil), inLoop)...)
	enter(t, f, 19, 19, 18)
	f = built(tower(19, inBody(nil), inLoop)...)
	enter(t, f, 19, 18, 18)
	f = built(tower(19, inLoop(nil), inBody)...)
	enter(t, f, 19, 19, 20)
	f = built(tower(19, inBody(nil), inElse)...)
	enter(t, f, 19, 20, 20)
}

// nothing reports an error if All yields something.
func nothing(t *testing.T, f api.Func) {
	t.Helper()
	if numbers, list := all(f); len(numbers) > 0 {
		t.Errorf("All yields %v, %+v", numbers, list)
	}
}

// P9.1 to P9.5: functions with 200 statements; one more is too much.
func TestManyStatements(t *testing.T) {
	f := built(row(200)...)
	statements(t, f, slices.Repeat([]int{api.SRead}, 200)...)
	for no := range 200 {
		got, e := points.After(f, no)
		point(t, "After", no, got, e, no+1)
		got, e = points.Last(f, no)
		point(t, "Last", no, got, e, 199)
	}
	fails(t, f, 200, api.ErrRange)
	fails(t, f, 201, api.ErrRange)
	fails(t, f, -1, api.ErrRange)
	for _, l := range [][]api.Stmt{
		inLoop(row(199)), inBody(row(199)), inElse(row(199)), inFirst(row(198)), inLast(row(197)),
		append(inLoop(row(99)), inElse(row(99))...),
		block(branch(row(100), row(99))),
		append(tower(19, row(1), inLoop, inElse), row(180)...),
		append(row(180), tower(19, row(1), inLoop, inElse)...),
		tower(19, row(162), inFirst),
		tower(18, row(164), inFirst),
		slices.Repeat(inLoop(inBody(row(2))), 50),
		slices.Repeat(inLoop(nil), 200),
		slices.Repeat(inBody(nil), 200),
	} {
		f := built(l...)
		if f.Count == 200 {
			matches(t, f)
			fails(t, f, 200, api.ErrRange)
		}
		if f = built(append(l, row(201-f.Count)...)...); f.Count != 201 {
			t.Fatal(f.Count)
		}
		for _, no := range []int{0, 199, 200, 201, -1} {
			fails(t, f, no, api.ErrArg)
		}
		nothing(t, f)
	}
}

// P9.1: other limits of functions: parameters, names, and expressions.
func TestOtherLimits(t *testing.T) {
	const long = "abcdefghijklmnop"
	deep := condition[0]
	for range 19 {
		deep = api.Expr{Kind: api.EUnary, Op: api.Not, Args: []api.Expr{deep}}
	}
	f := built(loop(api.Stmt{Kind: api.SCall, Name: long, Callee: long, Args: slices.Repeat([]api.Expr{deep}, 8)}))
	f.Name = long
	f.Params = slices.Repeat([]api.Param{{Name: long, Type: api.Array}}, 8)
	f.Result = api.Array
	matches(t, f)
	statements(t, f, api.SWhile, api.SCall)
	f.Params = append(f.Params, f.Params[0])
	fails(t, f, 0, api.ErrArg)
	nothing(t, f)
	f.Params = nil
	f.Body[0].Body[0].Args[7].Args = []api.Expr{deep}
	fails(t, f, 0, api.ErrArg)
	nothing(t, f)
	f.Body[0].Body[0].Args[7] = deep
	matches(t, f)
}
