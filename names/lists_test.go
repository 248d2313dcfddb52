package names_test

import (
	"math"
	"slices"
	"testing"

	"rewind/names"
)

// P10.2: an empty list has no variable.
func TestEmptyList(t *testing.T) {
	for _, l := range [][]names.Var{nil, {}, make([]names.Var, 0, 3), variables()[:0]} {
		for _, point := range []int{math.MinInt, -1, 0, 1, math.MaxInt} {
			in(t, l, point)
			seen(t, l, "a", point, -1)
			seen(t, l, "", point, -1)
		}
		find(t, l, "a", -1)
		find(t, l, "", -1)
	}
}

// P10.2: of the variables with the same name, Find returns the first one, and Seen the first one that is in scope.
func TestSameNames(t *testing.T) {
	l := list(v("a", 1, 0, 1, 3), v("b", 1, 1, 0, 9), v("a", 2, 3, 2, 6), v("a", 1, 5, 0, 2), v("b", 3, 6, 4, 5), v("a", 1, 0, 1, 3))
	find(t, l, "a", 0)
	find(t, l, "b", 1)
	find(t, l[1:], "a", 1)
	find(t, l[3:], "b", 1)
	find(t, l[:1], "b", -1)
	for point, want := range [][]int{{1, 3}, {0, 1, 3, 5}, {0, 1, 2, 5}, {1, 2}, {1, 2, 4}, {1, 2}, {1}, {1}, {1}, nil} {
		in(t, l, point, want...)
	}
	for point, want := range []int{3, 0, 0, 2, 2, 2, -1, -1, -1, -1} {
		seen(t, l, "a", point, want)
	}
	for point := range 9 {
		seen(t, l, "b", point, 1)
	}
	seen(t, l, "b", 9, -1)
	seen(t, l[2:], "b", 3, -1)
	seen(t, l[2:], "b", 4, 2)
	seen(t, l[2:], "b", 5, -1)
}

// P10.2: From and To can be any numbers: a variable is in scope from the one up to the other, and nowhere if they are equal or the wrong way round.
func TestAnyScopes(t *testing.T) {
	const least, most = math.MinInt, math.MaxInt
	bounds := []int{least, least + 1, -1 << 32, -201, -2, -1, 0, 1, 2, 7, 200, 201, 1 << 32, most - 1, most}
	for _, from := range bounds {
		for _, to := range bounds {
			l := list(v("x", 1, 0, from, to), v("y", 2, 0, to, from))
			for _, point := range bounds {
				switch {
				case from <= point && point < to:
					in(t, l, point, 0)
					seen(t, l, "x", point, 0)
					seen(t, l, "y", point, -1)
				case to <= point && point < from:
					in(t, l, point, 1)
					seen(t, l, "x", point, -1)
					seen(t, l, "y", point, 1)
				default:
					in(t, l, point)
					seen(t, l, "x", point, -1)
					seen(t, l, "y", point, -1)
				}
			}
			find(t, l, "x", 0)
			find(t, l, "y", 1)
		}
	}
	l := list(v("x", 1, 0, -3, -1), v("y", 1, 0, -2, 1), v("x", 1, 0, least, -2), v("z", 1, 0, 1, most))
	for i, want := range [][]int{{2}, {0, 2}, {0, 1}, {1}, {1}, {3}} {
		in(t, l, i-4, want...)
	}
	in(t, l, least, 2)
	in(t, l, most-1, 3)
	in(t, l, most)
	seen(t, l, "x", -4, 2)
	seen(t, l, "x", -3, 0)
	seen(t, l, "x", -2, 0)
	seen(t, l, "x", -1, -1)
}

// P10.2: names can be any strings, and types and numbers any numbers: they do not matter.
func TestAnyNames(t *testing.T) {
	l := list(v("", 0, 9, 0, 2), v("if", -1, -5, 0, 2), v("\x00", 99, math.MinInt, 1, 2), v("a b", 1<<40, math.MaxInt, 0, 1), v("\xff", 2, 2, 0, 2), v("", 1, -1, 0, 2))
	find(t, l, "", 0)
	find(t, l, "if", 1)
	find(t, l, "\x00", 2)
	find(t, l, "a b", 3)
	find(t, l, "\xff", 4)
	find(t, l, "\ufffd", -1)
	find(t, l, "a", -1)
	in(t, l, 0, 0, 1, 3, 4, 5)
	in(t, l, 1, 0, 1, 2, 4, 5)
	seen(t, l, "", 1, 0)
	seen(t, l[1:], "", 1, 4)
	seen(t, l, "\x00", 0, -1)
	seen(t, l, "\x00", 1, 2)
	seen(t, l, "a b", 1, -1)
	for _, x := range []names.Var{{}, {Type: 3}, {No: -1}, {Name: "", From: 1}} {
		in(t, list(x), 0)
		find(t, list(x), "", 0)
		seen(t, list(x), "", 0, -1)
	}
}

// P10.2: random lists, looked through from behind.
func TestRandomLists(t *testing.T) {
	words := []string{"", "a", "b", "c"}
	for seed := range uint64(3000) {
		r := random(seed, 2)
		var l []names.Var
		for range r.IntN(80) {
			l = append(l, v(words[r.IntN(4)], r.IntN(6)-1, r.IntN(12)-3, r.IntN(12)-3, r.IntN(12)-3))
		}
		for point := -4; point < 10; point++ {
			var scope []int
			first := map[string]int{"": -1, "a": -1, "b": -1, "c": -1}
			anywhere := map[string]int{"": -1, "a": -1, "b": -1, "c": -1}
			for i := len(l) - 1; i >= 0; i-- {
				anywhere[l[i].Name] = i
				if point >= l[i].From && point <= l[i].To-1 {
					scope = append(scope, i)
					first[l[i].Name] = i
				}
			}
			slices.Reverse(scope)
			in(t, l, point, scope...)
			for _, name := range words {
				seen(t, l, name, point, first[name])
				find(t, l, name, anywhere[name])
			}
		}
	}
}

// P10.2: a list can be much longer than that of a function.
func TestLongList(t *testing.T) {
	l := slices.Repeat(variables(), 2000)
	l = append(l, v("x", 1, 0, 3, 4))
	find(t, l, "x", 12000)
	seen(t, l, "x", 3, 12000)
	seen(t, l, "x", 4, -1)
	if got := names.In(l, 3); len(got) != 8001 || got[0] != 0 || got[4] != 6 || got[8000] != 12000 || !slices.IsSorted(got) {
		t.Errorf("%d", len(got))
	}
}

// P10.2, with R4: no list changes, nothing behind its length is read, and results are new memory.
func TestListsStay(t *testing.T) {
	whole := variables()
	l := whole[:3]
	for point := -1; point < 12; point++ {
		one, two := names.In(l, point), names.In(l, point)
		want := slices.Clone(two)
		for i := range one {
			one[i] = -7
		}
		_ = append(one, -8)
		if !slices.Equal(two, want) {
			t.Errorf("%v; want %v", two, want)
		}
		for _, x := range whole[3:] {
			seen(t, l, x.Name, point, -1)
		}
	}
	in(t, l, 3, 0, 1, 2)
	for _, x := range whole[3:] {
		find(t, l, x.Name, -1)
	}
	if !slices.Equal(whole, variables()) {
		t.Error(whole)
	}
}
