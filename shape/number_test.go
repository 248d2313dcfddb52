package shape_test

import (
	"fmt"
	"slices"
	"testing"

	"rewind/api"
	"rewind/shape"
)

// heads returns the numbers of statements and what they are, in the order of the text, from the chapter's definition: a statement, its block Body, its block Else, the next statement.
func heads(l []api.Stmt) []api.Stmt {
	var all []api.Stmt
	for len(l) > 0 {
		s := l[0]
		l = slices.Concat(s.Body, s.Else, l[1:])
		all = append(all, s)
	}
	return all
}

// P3.5
func TestNumber(t *testing.T) {
	f := function(show(num(1)), branch(block(loop(row(2)...), show(num(2))), row(1)), branch(nil, nil), show(num(3)))
	f.Params, f.Result, f.Count = params(3), api.Bool, -8
	g := api.Func{Name: "g", Count: 5}
	got := shape.Number(program(f, g, f))
	if shape.Check(got) != api.OK || len(got.Funcs) != 3 {
		t.Fatalf("%+v", got)
	}
	for i, want := range []int{9, 0, 9} {
		if got.Funcs[i].Count != want {
			t.Errorf("the function %d has the Count %d", i, got.Funcs[i].Count)
		}
		for no, s := range heads(got.Funcs[i].Body) {
			if s.No != no {
				t.Errorf("the statement %d has the number %d: %+v", no, s.No, s)
			}
		}
	}
	outer := got.Funcs[2].Body
	if outer[1].Body[0].No != 2 || outer[1].Body[0].Body[1].No != 4 || outer[1].Body[1].No != 5 || outer[1].Else[0].No != 6 || outer[2].No != 7 || outer[3].No != 8 {
		t.Errorf("%+v", outer)
	}
}

// P3.5 and P3.6: only numbers change, and they become right; numbers that are right stay.
func TestNumberAtRandom(t *testing.T) {
	r := random(4)
	wrong := 0
	for range 500 {
		p := r.program()
		if shape.Check(p) != api.OK {
			wrong++
		}
		got := shape.Number(p)
		if shape.Check(got) != api.OK || len(got.Funcs) != len(p.Funcs) {
			t.Fatalf("Number(%+v) = %+v", p, got)
		}
		for i, f := range got.Funcs {
			if !shape.SameFunc(f, p.Funcs[i]) {
				t.Fatalf("%+v became %+v", p.Funcs[i], f)
			}
		}
		// The numbers are written once more, to compare all else.
		for i := range p.Funcs {
			p.Funcs[i].Count = set(p.Funcs[i].Body, 0)
		}
		if !same(p, got) || shape.Check(p) != api.OK || !shape.Same(p, got) || !same(shape.Number(p), p) {
			t.Fatalf("%+v is not %+v", got, p)
		}
	}
	if wrong < 300 {
		t.Errorf("only %d programs had wrong numbers", wrong)
	}
}

// P3.2: any number of a statement that is wrong, and any Count.
func TestWrongNumbers(t *testing.T) {
	build := func() api.Func {
		return right(show(num(1)), branch(block(loop(row(2)...), show(num(2))), row(2)), show(num(3)))
	}
	if shape.Check(program(build())) != api.OK {
		t.Fatal("the numbers are right")
	}
	var visit func(l []api.Stmt, look func(s *api.Stmt))
	visit = func(l []api.Stmt, look func(s *api.Stmt)) {
		for i := range l {
			look(&l[i])
			visit(l[i].Body, look)
			visit(l[i].Else, look)
		}
	}
	for no := range 9 {
		for _, other := range []int{-1 << 63, -1, 0, 1, no - 1, no + 1, 8, 9, 1 << 32, no + 1<<32, 1<<63 - 1} {
			if other == no {
				continue
			}
			f := build()
			visit(f.Body, func(s *api.Stmt) {
				if s.No == no {
					s.No = other
				}
			})
			if shape.Check(program(f)) != api.ErrArg || shape.Check(program(build(), f)) != api.ErrArg {
				t.Errorf("the number %d instead of %d is wrong", other, no)
			}
			if got := shape.Number(program(f)); !same(got, program(build())) {
				t.Errorf("%+v", got)
			}
		}
	}
	for _, n := range []int{-1 << 63, -1, 0, 1, 8, 10, 9 + 1<<32, 1<<63 - 1} {
		f := build()
		f.Count = n
		if shape.Check(program(f)) != api.ErrArg {
			t.Errorf("the Count %d is wrong", n)
		}
		if got := shape.Number(program(f)); !same(got, program(build())) {
			t.Errorf("%+v", got)
		}
	}
	// Numbers in the order of the text, but with the block Else before the block Body, or with blocks behind the statements.
	for _, l := range [][5]int{{0, 2, 1, 3, 4}, {0, 2, 3, 1, 4}, {1, 0, 2, 3, 4}, {1, 2, 3, 4, 5}, {0, 1, 2, 4, 3}, {0, 1, 1, 2, 3}, {0, 0, 0, 0, 0}} {
		f := right(branch(row(1), row(1)), show(num(1)), show(num(2)))
		f.Body[0].No, f.Body[0].Body[0].No, f.Body[0].Else[0].No, f.Body[1].No, f.Body[2].No = l[0], l[1], l[2], l[3], l[4]
		if shape.Check(program(f)) != api.ErrArg {
			t.Errorf("the numbers %v are wrong", l)
		}
	}
}

// P3.5, with R4: the argument does not change, and the result shares no memory with it or with another result.
func TestNumberIsNewMemory(t *testing.T) {
	spoil := func(p api.Program) {
		var exprs func(l []api.Expr)
		exprs = func(l []api.Expr) {
			for i := range l {
				exprs(l[i].Args)
				l[i] = api.Expr{Kind: -1}
			}
		}
		var stmts func(l []api.Stmt)
		stmts = func(l []api.Stmt) {
			for i := range l {
				exprs(l[i].Args)
				stmts(l[i].Body)
				stmts(l[i].Else)
				l[i] = api.Stmt{Kind: -1}
			}
		}
		for i, f := range p.Funcs {
			stmts(f.Body)
			for k := range f.Params {
				f.Params[k] = api.Param{}
			}
			p.Funcs[i] = api.Func{}
		}
	}
	r := random(5)
	for range 100 {
		p := r.program()
		before := fmt.Sprintf("%+v", p)
		first, second := shape.Number(p), shape.Number(p)
		want := fmt.Sprintf("%+v", first)
		if fmt.Sprintf("%+v", p) != before || !same(first, second) {
			t.Fatalf("%s became %+v", before, p)
		}
		spoil(first)
		if fmt.Sprintf("%+v", p) != before || fmt.Sprintf("%+v", second) != want {
			t.Fatalf("%s shares memory with its result", before)
		}
		spoil(p)
		if fmt.Sprintf("%+v", second) != want {
			t.Fatalf("%s is shared with a result", want)
		}
	}
	// Parts of the argument that are the same memory become different memory.
	shared := row(2)
	got := shape.Number(program(function(branch(shared, shared)), function(shared...)))
	spoil(api.Program{Funcs: got.Funcs[1:]})
	got.Funcs[0].Body[0].Body[0].Args[0] = num(5)
	if l := got.Funcs[0].Body[0].Else; l[0].No != 3 || l[1].No != 4 || l[0].Args[0].Num != 1 {
		t.Errorf("%+v", l)
	}
}

// R4: what stands behind the length of a slice is neither read nor written.
func TestBehindTheLength(t *testing.T) {
	args := []api.Expr{num(1), {Kind: 99}, {Kind: 98}}
	body := []api.Stmt{show(num(1)), {Kind: 97}}
	body[0].Args = args[:1]
	other := []api.Stmt{{Kind: 96}}
	names := []api.Param{{Name: "x", Type: api.Int}, {Name: "9"}}
	funcs := []api.Func{{Name: "f", Params: names[:1], Body: []api.Stmt{branch(body[:1], other[:0])}, Count: 2}, {Name: "8"}}
	funcs[0].Body[0].Body[0].No = 1
	p := api.Program{Funcs: funcs[:1]}
	if shape.Check(p) != api.OK || !shape.Same(p, p) {
		t.Error("the program is right")
	}
	got := shape.Number(p)
	if !same(got, p) {
		t.Errorf("%+v", got)
	}
	if args[1].Kind != 99 || args[2].Kind != 98 || body[1].Kind != 97 || other[0].Kind != 96 || names[1].Name != "9" || funcs[1].Name != "8" {
		t.Error("what stands behind the length has changed")
	}
	got.Funcs[0].Body[0].Else = append(got.Funcs[0].Body[0].Else, show(num(3)))
	if other[0].Kind != 96 {
		t.Error("an empty slice of the result has memory of the argument")
	}
}

// R8: equal calls return equal results, and leave their arguments as they are.
func TestArgumentsStay(t *testing.T) {
	for _, f := range functions() {
		before := fmt.Sprintf("%+v", f)
		for range 2 {
			shape.Check(program(f))
			shape.SameFunc(f, f)
			shape.Same(program(f), program(f))
			shape.Number(program(f))
		}
		if fmt.Sprintf("%+v", f) != before {
			t.Errorf("%s became %+v", before, f)
		}
	}
}
