package names_test

import (
	"slices"
	"strconv"
	"testing"

	"rewind/api"
	"rewind/names"
)

// row returns declarations of different names that stand one behind the other, whose numbers begin at this one.
func row(from, n int) []api.Stmt {
	var l []api.Stmt
	for i := range n {
		l = append(l, declare("v"+strconv.Itoa(from+i), 1+i%3))
	}
	return l
}

// params returns parameters with different names.
func params(n int) []api.Param {
	var l []api.Param
	for i := range n {
		l = append(l, param("p"+strconv.Itoa(i), 1+i%3))
	}
	return l
}

// Ways to put statements into blocks:

func inLoop(l []api.Stmt) []api.Stmt { return block(loop(l...)) }
func inBody(l []api.Stmt) []api.Stmt { return block(branch(l, nil)) }
func inElse(l []api.Stmt) []api.Stmt { return block(branch(nil, l)) }
func inHalves(l []api.Stmt) []api.Stmt {
	return block(branch(l[:len(l)/2], l[len(l)/2:]))
}
func inMany(l []api.Stmt) []api.Stmt {
	var all []api.Stmt
	for _, s := range l {
		all = append(all, loop(s, read()))
	}
	return all
}
func asTheyAre(l []api.Stmt) []api.Stmt { return l }

var ways = []func(l []api.Stmt) []api.Stmt{asTheyAre, inLoop, inBody, inElse, inHalves, inMany}

// numberOf returns the number of the first statement of a function for which look holds.
func numberOf(t *testing.T, l []api.Stmt, look func(s api.Stmt) bool) int {
	t.Helper()
	for len(l) > 0 {
		if look(l[0]) {
			return l[0].No
		}
		l = slices.Concat(l[0].Body, l[0].Else, l[1:])
	}
	t.Fatal("there is no such statement")
	return 0
}

// P10.1: exactly 50 declarations are right, parameters and those in blocks among them; at the 51st one they are too many.
func TestManyDeclarations(t *testing.T) {
	for n := range 9 {
		for _, around := range ways {
			l := row(0, 50-n)
			f := built(params(n), append(block(read()), around(l)...)...)
			matches(t, f)
			vars, no, e := names.Of(f)
			if len(vars) != 50 || no != 0 || e != api.OK {
				t.Fatalf("%v, %d, %d", vars, no, e)
			}
			f = built(params(n), append(block(read()), around(append(l, declare("z", 1)))...)...)
			fails(t, f, numberOf(t, f.Body, func(s api.Stmt) bool { return s.Name == "z" }), api.ErrMany)
			matches(t, f)
		}
	}
	f := built(nil, row(0, 51)...)
	fails(t, f, 50, api.ErrMany)
	f = built(params(8), row(0, 43)...)
	fails(t, f, 42, api.ErrMany)
	f = built(params(8), append(row(0, 42), read(), read(), declare("z", 3))...)
	fails(t, f, 44, api.ErrMany)
}

// P10.1: the 51st declaration is ErrName if its name was declared before, and this wherever it was.
func TestNameBeforeMany(t *testing.T) {
	for n := range 9 {
		before := params(n)
		l := row(0, 50-n)
		for i := range 50 {
			name := "v" + strconv.Itoa(i)
			if i >= 50-n {
				name = before[i-(50-n)].Name
			}
			f := built(before, append(slices.Clone(l), declare(name, 1))...)
			fails(t, f, 50-n, api.ErrName)
			f = built(before, append(inLoop(l), branch(nil, block(declare(name, 1))))...)
			fails(t, f, 52-n, api.ErrName)
		}
	}
}

// P10.1: the first declaration that is wrong decides, whichever error it has.
func TestFirstFaultAroundTheLimit(t *testing.T) {
	// ErrName in front of ErrMany.
	f := built(nil, append(row(0, 49), append(block(declare("v0", 1)), row(50, 10)...)...)...)
	fails(t, f, 49, api.ErrName)
	f = built([]api.Param{param("p", 1), param("p", 1)}, row(0, 60)...)
	fails(t, f, -1, api.ErrName)
	// ErrMany in front of ErrName.
	f = built(nil, append(row(0, 51), declare("v0", 1), declare("v50", 1))...)
	fails(t, f, 50, api.ErrMany)
	f = built(nil, append(row(0, 50), declare("z", 1), declare("z", 1))...)
	fails(t, f, 50, api.ErrMany)
	// ErrName at the 51st, and ErrMany would be at the next one.
	f = built(nil, append(row(0, 50), declare("v49", 1), declare("z", 1))...)
	fails(t, f, 50, api.ErrName)
	// A declaration that stands in a block in front of the others in the text.
	f = built(nil, append(inElse(row(0, 1)), row(1, 50)...)...)
	fails(t, f, 51, api.ErrMany)
	f = built(nil, append(inElse(row(0, 1)), append(row(1, 49), declare("v0", 1))...)...)
	fails(t, f, 51, api.ErrName)
}

// P10.1: other statements do not count, and 200 of them are possible.
func TestManyStatements(t *testing.T) {
	rest := slices.Repeat(block(read()), 150)
	for _, around := range ways {
		l := around(row(0, 50))
		l = append(l, rest[:200-size(l)]...)
		f := built(params(0), l...)
		if f.Count != 200 {
			t.Fatal(f.Count)
		}
		matches(t, f)
		f = built(params(1), l...)
		fails(t, f, numberOf(t, f.Body, func(s api.Stmt) bool { return s.Name == "v49" }), api.ErrMany)
		f = built(params(0), append(l, read())...)
		fails(t, f, 0, api.ErrArg)
	}
	f := built(nil, append(slices.Clone(rest), row(0, 50)...)...)
	want := make([]names.Var, 50)
	for i := range want {
		want[i] = v("v"+strconv.Itoa(i), 1+i%3, 150+i, 151+i, 201)
	}
	of(t, f, want...)
	in(t, want, 150)
	in(t, want, 151, 0)
	in(t, want, 199, func() (l []int) {
		for i := range 49 {
			l = append(l, i)
		}
		return l
	}()...)
	if got := names.In(want, 200); len(got) != 50 {
		t.Error(got)
	}
	fails(t, built(nil, row(0, 200)...), 50, api.ErrMany)
	fails(t, built(nil, row(0, 201)...), 0, api.ErrArg)
}

// P10.1: blocks that are nested 20 deep, with declarations in each.
func TestNestedToTheLimit(t *testing.T) {
	for _, around := range []func(l []api.Stmt) []api.Stmt{inLoop, inBody, inElse} {
		nest := func(levels int) []api.Stmt {
			l := block(declare("v0", 1), read())
			for i := range levels - 1 {
				l = append(block(declare("v"+strconv.Itoa(i+1), 1)), append(around(l), read())...)
			}
			return l
		}
		f := built(params(8), nest(20)...)
		matches(t, f)
		l, _, _ := names.Of(f)
		if len(l) != 28 {
			t.Fatalf("%v", l)
		}
		// The outermost one is declared first: its block is the function's.
		if l[8] != v("v19", 1, 0, 1, 60) {
			t.Errorf("%v", l[8])
		}
		for i := 1; i < 20; i++ {
			if want := v("v"+strconv.Itoa(19-i), 1, 2*i, 2*i+1, 59-i); l[8+i] != want {
				t.Errorf("%v; want %v", l[8+i], want)
			}
		}
		fails(t, built(params(8), nest(21)...), 0, api.ErrArg)
	}
}
