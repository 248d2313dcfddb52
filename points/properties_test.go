package points_test

import (
	"fmt"
	"maps"
	"slices"
	"testing"

	"rewind/api"
	"rewind/points"
)

// functions returns functions of many forms: small ones, random ones, and one with 200 statements.
func functions() []api.Func {
	l := []api.Func{built(row(200)...), built(tower(19, row(3), inFirst, inLast, inElse)...)}
	for _, list := range blocks(3) {
		for _, b := range list {
			l = append(l, built(b...))
		}
	}
	for seed := range uint64(100) {
		r := random(seed, 4)
		l = append(l, randomFunc(r, 1+r.IntN(5)))
	}
	return l
}

// nested returns the numbers of the statements of a block, and of all that are nested in them.
func nested(l []api.Stmt) []int {
	var numbers []int
	for _, s := range l {
		numbers = append(numbers, s.No)
		numbers = append(numbers, nested(s.Body)...)
		numbers = append(numbers, nested(s.Else)...)
	}
	return numbers
}

// P9.6: the numbers of a block, with all that is nested in it, are those from its first statement's to Last, which is the same for all its statements.
func TestBlocksHaveNumbersInARow(t *testing.T) {
	for _, f := range functions() {
		lists := [][]api.Stmt{f.Body}
		for _, s := range points.All(f) {
			lists = append(lists, s.Body, s.Else)
		}
		for _, l := range lists {
			for _, s := range l {
				last, e := points.Last(f, s.No)
				var want []int
				for no := l[0].No; no <= last; no++ {
					want = append(want, no)
				}
				if got := nested(l); e != api.OK || !slices.Equal(got, want) {
					t.Fatalf("Last of %d = %d, %d; %v", s.No, last, e, got)
				}
			}
		}
	}
}

// P9.7: all points are from 0 to Count; behind a statement comes a greater one, or the innermost SWhile around it.
func TestPointsAreInRange(t *testing.T) {
	for _, f := range functions() {
		for no, s := range points.All(f) {
			behind, e := points.After(f, no)
			if e != api.OK || behind < 0 || behind > f.Count {
				t.Fatalf("After of %d = %d, %d", no, behind, e)
			}
			if behind <= no && behind != innermost(t, f, no) {
				t.Fatalf("After of %d = %d", no, behind)
			}
			if s.Kind != api.SIf && s.Kind != api.SWhile {
				continue
			}
			for _, cond := range []bool{false, true} {
				into, e := points.Enter(f, no, cond)
				if e != api.OK || into < 0 || into > f.Count {
					t.Fatalf("Enter of %d = %d, %d", no, into, e)
				}
			}
		}
	}
}

// innermost returns the nearest SWhile around a statement; -1 if there is none.
func innermost(t *testing.T, f api.Func, no int) int {
	for {
		parent, ok, e := points.Parent(f, no)
		if e != api.OK {
			t.Fatal(no, e)
		}
		if !ok {
			return -1
		}
		if s, _ := points.At(f, parent); s.Kind == api.SWhile {
			return parent
		}
		no = parent
	}
}

// P9.4: the depth of a statement is one more than that of its parent, in one of whose blocks it stands.
func TestDepthOfTheParent(t *testing.T) {
	for _, f := range functions() {
		for no := range f.Count {
			depth, _ := points.Depth(f, no)
			parent, ok, _ := points.Parent(f, no)
			if !ok {
				if depth != 0 {
					t.Fatalf("%d has no parent, and the depth %d", no, depth)
				}
				continue
			}
			around, _ := points.Depth(f, parent)
			s, _ := points.At(f, parent)
			stands := slices.ContainsFunc(slices.Concat(s.Body, s.Else), func(s api.Stmt) bool { return s.No == no })
			if depth != around+1 || !stands {
				t.Fatalf("%d has the depth %d; its parent %d %d", no, depth, parent, around)
			}
		}
	}
}

// P9.1, with R7: the loop may end early, at each statement, and each loop begins anew.
func TestAllEndsEarly(t *testing.T) {
	f := sample(t)
	seq := points.All(f)
	for most := 1; most <= 8; most++ {
		var got []int
		for no, s := range seq {
			if s.No != no {
				t.Error(no, s)
			}
			got = append(got, no)
			if len(got) == most {
				break
			}
		}
		if want := []int{0, 1, 2, 3, 4, 5, 6, 7}[:min(most, 7)]; !slices.Equal(got, want) {
			t.Errorf("%v; want %v", got, want)
		}
	}
	// At the greatest depth, too.
	f = built(tower(19, row(2), inFirst, inLast, inElse)...)
	for last := range f.Count {
		n := 0
		for no := range points.All(f) {
			if no != n {
				t.Error(no, n)
			}
			n++
			if no == last {
				break
			}
		}
		if n != last+1 {
			t.Error(n, last)
		}
	}
}

// P9.1, with R7: loops over the same iterator, one inside the other.
func TestLoopsInLoops(t *testing.T) {
	f := sample(t)
	seq := points.All(f)
	var got []int
	for a := range seq {
		for b := range seq {
			if b > a {
				break
			}
			got = append(got, 10*a+b)
		}
	}
	var want []int
	for a := range 7 {
		for b := range a + 1 {
			want = append(want, 10*a+b)
		}
	}
	if !slices.Equal(got, want) {
		t.Error(got)
	}
	if m := maps.Collect(seq); len(m) != 7 || m[3].Kind != api.SPrint {
		t.Error(m)
	}
}

// spoilExprs overwrites expressions and all of their parts.
func spoilExprs(l []api.Expr) {
	for i := range l {
		spoilExprs(l[i].Args)
		l[i] = api.Expr{Kind: -1}
	}
}

// spoil overwrites statements and all of their parts.
func spoil(l []api.Stmt) {
	for i := range l {
		spoilExprs(l[i].Args)
		spoil(l[i].Body)
		spoil(l[i].Else)
		l[i] = api.Stmt{Kind: -1}
	}
}

// P9.1, with R4: what At returns shares no memory with the function, nor with another result.
func TestAtIsNewMemory(t *testing.T) {
	f := function(t, "(a int, b array) int", everything)
	before := fmt.Sprintf("%+v", f)
	for no := range f.Count {
		one, _ := points.At(f, no)
		two, _ := points.At(f, no)
		want := fmt.Sprintf("%+v", two)
		spoil(block(one))
		if !same(f, function(t, "(a int, b array) int", everything)) || fmt.Sprintf("%+v", two) != want {
			t.Fatalf("%d shares memory", no)
		}
	}
	s, _ := points.At(f, ifNo)
	want := fmt.Sprintf("%+v", s)
	if fmt.Sprintf("%+v", f) != before {
		t.Errorf("%+v; want %s", f, before)
	}
	spoil(f.Body)
	if fmt.Sprintf("%+v", s) != want {
		t.Errorf("%+v; want %s", s, want)
	}
}

// P9.1, with R4 and R7: what All yields shares no memory with the function, nor with what else it yields.
func TestAllIsNewMemory(t *testing.T) {
	f := function(t, "(a int, b array) int", everything)
	_, want := all(f)
	seq := points.All(f)
	for range 2 {
		n := 0
		for no, s := range seq {
			if no != n || !same(s, want[no]) {
				t.Fatalf("%d is %+v; want %+v", no, s, want[no])
			}
			spoil(block(s))
			n++
		}
		if n != len(want) || !same(f, function(t, "(a int, b array) int", everything)) {
			t.Fatal(n, f)
		}
	}
	// The iterator keeps no reference to the function.
	spoil(f.Body)
	f.Params[0] = api.Param{}
	n := 0
	for no, s := range seq {
		if no != n || !same(s, want[no]) {
			t.Fatalf("%d is %+v; want %+v", no, s, want[no])
		}
		n++
	}
	if n != len(want) {
		t.Error(n)
	}
	// A function that becomes right only behind the call has had nothing.
	g := built(read(), loop(row(2)...))
	g.Body[1].No = 5
	seq = points.All(g)
	g.Body[1].No = 1
	for no, s := range seq {
		t.Error(no, s)
	}
	if _, list := all(g); len(list) != 4 {
		t.Error(list)
	}
}

// R4 and R8: no function changes its argument, and equal calls return equal results.
func TestArgumentsStay(t *testing.T) {
	for _, f := range append(functions(), api.Func{}, built(row(201)...)) {
		before := fmt.Sprintf("%+v", f)
		var results [2]string
		for i := range results {
			for no := -1; no <= min(f.Count, 12); no++ {
				s, a := points.At(f, no)
				n, b := points.After(f, no)
				m, c := points.Enter(f, no, no%2 == 0)
				p, ok, d := points.Parent(f, no)
				l, e := points.Last(f, no)
				k, g := points.Depth(f, no)
				results[i] += fmt.Sprint(s, a, n, b, m, c, p, ok, d, l, e, k, g)
			}
			_, list := all(f)
			results[i] += fmt.Sprint(list)
		}
		if results[0] != results[1] || fmt.Sprintf("%+v", f) != before {
			t.Fatalf("%s became %+v", before, f)
		}
	}
}

// R4: what stands behind the length of a slice is neither read nor written.
func TestBehindTheLength(t *testing.T) {
	f := function(t, "(a int, b array)", "if a < 1 { read a; f(a, b); read b; } else { print 1; read a; } while a { read b; } read a;")
	f.Body = f.Body[:2]
	f.Body[0].Body, f.Body[0].Else, f.Body[1].Body = f.Body[0].Body[:2], f.Body[0].Else[:1], f.Body[1].Body[:0]
	f.Body[0].Body[1].Args = f.Body[0].Body[1].Args[:1]
	f.Params = f.Params[:1]
	f.Count = numbered(f.Body, 0)
	behind := func() string {
		b := f.Body[0].Body
		return fmt.Sprint(f.Body[:3], b[:3], f.Body[0].Else[:2], f.Body[1].Body[:1], b[1].Args[:2], f.Params[:2])
	}
	before := behind()
	matches(t, f)
	statements(t, f, api.SIf, api.SRead, api.SCall, api.SPrint, api.SWhile)
	after(t, f, 4, 2, 4, 4, 5)
	enter(t, f, 4, 4, 5)
	lasts(t, f, 4, 2, 2, 3, 4)
	for _, s := range points.All(f) {
		s.Args, s.Body, s.Else = append(s.Args, api.Expr{}), append(s.Body, api.Stmt{}), append(s.Else, api.Stmt{})
	}
	for no := range f.Count {
		s, _ := points.At(f, no)
		s.Args, s.Body, s.Else = append(s.Args, api.Expr{}), append(s.Body, api.Stmt{}), append(s.Else, api.Stmt{})
	}
	if after := behind(); after != before {
		t.Errorf("%s became %s", before, after)
	}
}

// R3: nil and empty slices are the same.
func TestNilAndEmptySlices(t *testing.T) {
	for _, f := range functions() {
		var emptied func(l []api.Stmt) []api.Stmt
		emptied = func(l []api.Stmt) []api.Stmt {
			l = append([]api.Stmt{}, l...)
			for i, s := range l {
				l[i].Args = append([]api.Expr{}, s.Args...)
				l[i].Body, l[i].Else = emptied(s.Body), emptied(s.Else)
			}
			return l
		}
		f.Params, f.Body = []api.Param{}, emptied(f.Body)
		matches(t, f)
	}
}
