package points_test

import (
	"math/rand/v2"
	"slices"
	"testing"

	"rewind/api"
	"rewind/points"
)

// The definitions of the chapter once more, in another way: a table of all statements, which is filled block by block, from the function's block inwards; what is nested in a statement is found from inside. What the package returns has to be what they say.

// entry is what the table has for a statement.
type entry struct {
	stmt   api.Stmt
	block  []int // the numbers of the statements of its block
	parent int   // -1: none
}

// table is that of a function.
type table map[int]entry

// defined returns the table of a function.
func defined(f api.Func) table {
	type block struct {
		list   []api.Stmt
		parent int
	}
	t := table{}
	for waiting := []block{{f.Body, -1}}; len(waiting) > 0; waiting = waiting[1:] {
		b := waiting[0]
		var numbers []int
		for _, s := range b.list {
			numbers = append(numbers, s.No)
			waiting = append(waiting, block{s.Body, s.No}, block{s.Else, s.No})
		}
		for _, s := range b.list {
			t[s.No] = entry{s, numbers, b.parent}
		}
	}
	return t
}

// after returns the point behind a statement.
func (t table) after(no int) int {
	for no != -1 {
		e := t[no]
		if i := slices.Index(e.block, no); i < len(e.block)-1 {
			return e.block[i+1]
		}
		no = e.parent
		if no != -1 && t[no].stmt.Kind == api.SWhile {
			return no
		}
	}
	return len(t)
}

// enter returns the point into a statement; false if it has no blocks.
func (t table) enter(no int, cond bool) (int, bool) {
	s := t[no].stmt
	blocks := map[bool][]api.Stmt{true: s.Body, false: s.Else}
	switch {
	case s.Kind != api.SIf && s.Kind != api.SWhile:
		return 0, false
	case len(blocks[cond]) > 0:
		return blocks[cond][0].No, true
	case s.Kind == api.SWhile && cond:
		return no, true
	}
	return t.after(no), true
}

// around returns the parents of a statement, the nearest one first.
func (t table) around(no int) []int {
	var l []int
	for no = t[no].parent; no != -1; no = t[no].parent {
		l = append(l, no)
	}
	return l
}

// last returns the greatest number of the statements of a block, and of those of which one of them is around.
func (t table) last(no int) int {
	greatest := no
	for n := range t {
		for _, x := range append(t.around(n), n) {
			if slices.Contains(t[no].block, x) {
				greatest = max(greatest, n)
			}
		}
	}
	return greatest
}

// matches reports an error if a function does not have what its table says.
func matches(t *testing.T, f api.Func) {
	t.Helper()
	d := defined(f)
	if len(d) != f.Count {
		t.Fatalf("%d statements in %+v", len(d), f)
	}
	numbers, list := all(f)
	if len(numbers) != f.Count {
		t.Fatalf("All yields %d statements of %+v", len(numbers), f)
	}
	for no := range f.Count {
		e := d[no]
		if s, err := points.At(f, no); !same(s, e.stmt) || err != api.OK || numbers[no] != no || !same(list[no], e.stmt) {
			t.Errorf("At of %d = %+v, %d; All: %d, %+v", no, s, err, numbers[no], list[no])
		}
		got, err := points.After(f, no)
		point(t, "After", no, got, err, d.after(no))
		if p, ok, err := points.Parent(f, no); p != max(e.parent, 0) || ok != (e.parent >= 0) || err != api.OK {
			t.Errorf("Parent of %d = %d, %v, %d; want %d", no, p, ok, err, e.parent)
		}
		got, err = points.Depth(f, no)
		point(t, "Depth", no, got, err, len(d.around(no)))
		got, err = points.Last(f, no)
		point(t, "Last", no, got, err, d.last(no))
		for _, cond := range []bool{false, true} {
			if want, ok := d.enter(no, cond); ok {
				got, err = points.Enter(f, no, cond)
				point(t, "Enter", no, got, err, want)
			} else {
				noEnter(t, f, no)
			}
		}
	}
	if t.Failed() {
		t.Fatalf("%+v", f)
	}
}

// numbered writes right numbers to statements, from a number on, and returns the one behind them.
func numbered(l []api.Stmt, from int) int {
	for i := range l {
		l[i].No = from
		from = numbered(l[i].Else, numbered(l[i].Body, from+1))
	}
	return from
}

// built returns a function with copies of these statements, and right numbers.
func built(l ...api.Stmt) api.Func {
	var copied func(l []api.Stmt) []api.Stmt
	copied = func(l []api.Stmt) []api.Stmt {
		l = slices.Clone(l)
		for i, s := range l {
			l[i].Body, l[i].Else = copied(s.Body), copied(s.Else)
		}
		return l
	}
	f := api.Func{Name: "f", Body: copied(l)}
	f.Count = numbered(f.Body, 0)
	return f
}

// Short ways to write statements:

var condition = []api.Expr{{Kind: api.EVar, Name: "a"}}

func block(l ...api.Stmt) []api.Stmt { return l }
func read() api.Stmt                 { return api.Stmt{Kind: api.SRead, Name: "x"} }
func loop(l ...api.Stmt) api.Stmt    { return api.Stmt{Kind: api.SWhile, Args: condition, Body: l} }
func branch(l, other []api.Stmt) api.Stmt {
	return api.Stmt{Kind: api.SIf, Args: condition, Body: l, Else: other}
}

// blocks returns all blocks of up to so many statements, by their sizes.
func blocks(most int) [][][]api.Stmt {
	bySize := [][][]api.Stmt{{nil}}
	single := [][]api.Stmt{nil}
	for size := 1; size <= most; size++ {
		l := []api.Stmt{}
		if size == 1 {
			l = append(l, read())
		}
		for _, inner := range bySize[size-1] {
			l = append(l, loop(inner...))
		}
		for n := range size {
			for _, inner := range bySize[n] {
				for _, other := range bySize[size-1-n] {
					l = append(l, branch(inner, other))
				}
			}
		}
		single = append(single, l)
		var list [][]api.Stmt
		for n := 1; n <= size; n++ {
			for _, s := range single[n] {
				for _, rest := range bySize[size-n] {
					list = append(list, append(block(s), rest...))
				}
			}
		}
		bySize = append(bySize, list)
	}
	return bySize
}

// P9.1 to P9.5: all functions with up to five statements, which have blocks in all ways.
func TestAllSmallFunctions(t *testing.T) {
	for size, list := range blocks(5) {
		if want := []int{1, 3, 18, 144, 1323, 13176}[size]; len(list) != want {
			t.Errorf("%d functions with %d statements; want %d", len(list), size, want)
		}
		for _, l := range list {
			matches(t, built(l...))
		}
	}
}

// random returns a source of numbers that are always the same.
func random(seed, sort uint64) *rand.Rand { return rand.New(rand.NewPCG(seed, sort)) }

// randomBlock returns statements with a height of at most this one, possibly none.
func randomBlock(r *rand.Rand, height int) []api.Stmt {
	var l []api.Stmt
	for range r.IntN(5) {
		l = append(l, randomStmt(r, height))
	}
	return l
}

// randomStmt returns a statement with a height of at most this one.
func randomStmt(r *rand.Rand, height int) api.Stmt {
	var l, other []api.Stmt
	if height > 1 {
		l, other = randomBlock(r, height-1), randomBlock(r, height-1)
	}
	one := condition
	two := append(one, api.Expr{Kind: api.ENum, Num: r.Int64()})
	switch r.IntN(16) {
	case 0:
		return api.Stmt{Kind: api.SVar, Name: "x", Type: api.Int, Args: one[r.IntN(2):]}
	case 1:
		return api.Stmt{Kind: api.SSet, Name: "x", Args: one}
	case 2:
		return api.Stmt{Kind: api.SStore, Name: "x", Args: two}
	case 3:
		return api.Stmt{Kind: api.SNew, Name: "x", Args: one}
	case 4:
		return read()
	case 5:
		return api.Stmt{Kind: api.SPrint, Args: two[1:]}
	case 6:
		return api.Stmt{Kind: api.SCall, Callee: "f", Args: two}
	case 7:
		return api.Stmt{Kind: api.SReturn, Args: one[r.IntN(2):]}
	case 8, 9, 10, 11:
		return branch(l, other)
	}
	return loop(l...)
}

// randomFunc returns a function with the right shape.
func randomFunc(r *rand.Rand, height int) api.Func {
	for {
		var l []api.Stmt
		for range r.IntN(4) {
			l = append(l, randomBlock(r, height)...)
		}
		if f := built(l...); f.Count <= api.MaxPoints {
			return f
		}
	}
}

// P9.1 to P9.5: random functions.
func TestRandomFunctions(t *testing.T) {
	large := 0
	for seed := range uint64(500) {
		r := random(seed, 1)
		f := randomFunc(r, 1+r.IntN(6))
		matches(t, f)
		if f.Count > 50 {
			large++
		}
	}
	if large < 50 {
		t.Errorf("only %d functions are large", large)
	}
}

// trace runs statements as they are nested, with conditions that are true as often as r says, and returns the numbers of those that are executed, up to so many.
func trace(f api.Func, r *rand.Rand, most int) []int {
	var l []int
	var run func(list []api.Stmt) bool
	execute := func(s api.Stmt) bool {
		for len(l) < most {
			l = append(l, s.No)
			switch {
			case s.Kind != api.SIf && s.Kind != api.SWhile:
				return true
			case r.IntN(2) == 0:
				return run(s.Else)
			case s.Kind == api.SIf:
				return run(s.Body)
			case !run(s.Body):
				return false
			}
		}
		return false
	}
	run = func(list []api.Stmt) bool {
		for _, s := range list {
			if !execute(s) {
				return false
			}
		}
		return true
	}
	if run(f.Body) {
		l = append(l, f.Count)
	}
	return l
}

// follow goes from point to point, with the same conditions.
func follow(t *testing.T, f api.Func, r *rand.Rand, most int) []int {
	var l []int
	for no := 0; ; {
		if no == f.Count {
			return append(l, no)
		}
		if len(l) == most {
			return l
		}
		l = append(l, no)
		s, e := points.At(f, no)
		if e != api.OK {
			t.Fatal(no, e)
		}
		if s.Kind == api.SIf || s.Kind == api.SWhile {
			no, e = points.Enter(f, no, r.IntN(2) != 0)
		} else {
			no, e = points.After(f, no)
		}
		if e != api.OK {
			t.Fatal(no, e)
		}
	}
}

// P9.2 and P9.3: from point to point, a function goes the way that its blocks say.
func TestTheWayThroughAFunction(t *testing.T) {
	ended := 0
	for seed := range uint64(3000) {
		r := random(seed, 2)
		f := randomFunc(r, 1+r.IntN(5))
		want, got := trace(f, random(seed, 3), 100), follow(t, f, random(seed, 3), 100)
		if !slices.Equal(got, want) {
			t.Fatalf("%v; want %v; %+v", got, want, f)
		}
		if want[len(want)-1] == f.Count {
			ended++
		}
	}
	if ended < 1000 {
		t.Errorf("only %d ways lead to the end", ended)
	}
}
