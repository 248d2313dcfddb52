package names_test

import (
	"math/rand/v2"
	"slices"
	"strconv"
	"testing"

	"rewind/api"
	"rewind/names"
)

// The definitions of the chapter once more, in another way: the blocks are walked as they are nested, and at each point it is written down which variables are in scope there. From and To come from the sizes of blocks. What the package returns has to be what they say.

// definition is what is defined for a function.
type definition struct {
	vars   []names.Var
	scopes [][]int // the indexes of the variables in scope, for each point
	no     int     // the statement that is wrong
	err    api.Errno
}

// size returns the number of statements, with those that are nested.
func size(l []api.Stmt) int {
	n := len(l)
	for _, s := range l {
		n += size(s.Body) + size(s.Else)
	}
	return n
}

// declare adds a variable, and says whether it is wrong if none was so before.
func (d *definition) declare(x names.Var) {
	had := slices.ContainsFunc(d.vars, func(y names.Var) bool { return y.Name == x.Name })
	switch {
	case d.err != api.OK:
	case had:
		d.no, d.err = x.No, api.ErrName
	case len(d.vars) >= 50:
		d.no, d.err = x.No, api.ErrMany
	}
	d.vars = append(d.vars, x)
}

// walk goes through a block, in which variables are in scope up to a point; those in visible are so at its beginning.
func (d *definition) walk(block []api.Stmt, visible []int, to int) []int {
	visible = slices.Clone(visible)
	for _, s := range block {
		d.scopes = append(d.scopes, slices.Clone(visible))
		if s.Kind == api.SVar {
			visible = append(visible, len(d.vars))
			d.declare(v(s.Name, s.Type, s.No, s.No+1, to))
		}
		behind := s.No + 1 + size(s.Body)
		d.walk(s.Body, visible, behind)
		d.walk(s.Else, visible, behind+size(s.Else))
	}
	return visible
}

// defined returns what is defined for a function with the right shape.
func defined(f api.Func) definition {
	var d definition
	var visible []int
	end := size(f.Body)
	for i, p := range f.Params {
		d.declare(v(p.Name, p.Type, -1, 0, end+1))
		visible = append(visible, i)
	}
	d.scopes = append(d.scopes, d.walk(f.Body, visible, end+1))
	return d
}

// matches reports an error if a function does not have what is defined for it.
func matches(t *testing.T, f api.Func) {
	t.Helper()
	d := defined(f)
	if len(d.scopes) != f.Count+1 {
		t.Fatalf("%d points, and the Count %d", len(d.scopes), f.Count)
	}
	if d.err == api.OK {
		of(t, f, d.vars...)
	} else {
		fails(t, f, d.no, d.err)
	}
	// The list is one also if the function has a name twice, or too many.
	for point, want := range d.scopes {
		in(t, d.vars, point, want...)
		for _, x := range d.vars {
			first := -1
			for _, i := range want {
				if first < 0 && d.vars[i].Name == x.Name {
					first = i
				}
			}
			seen(t, d.vars, x.Name, point, first)
		}
	}
	in(t, d.vars, -1)
	in(t, d.vars, f.Count+1)
	for _, x := range d.vars {
		find(t, d.vars, x.Name, slices.IndexFunc(d.vars, func(y names.Var) bool { return y.Name == x.Name }))
	}
	if t.Failed() {
		t.Fatalf("%+v", f)
	}
}

// built returns a function with these parameters, copies of these statements, and right numbers.
func built(params []api.Param, l ...api.Stmt) api.Func {
	f := api.Func{Name: "f", Params: params}
	var numbered func(l []api.Stmt) []api.Stmt
	numbered = func(l []api.Stmt) (result []api.Stmt) {
		for _, s := range l {
			s.No = f.Count
			f.Count++
			s.Body = numbered(s.Body)
			s.Else = numbered(s.Else)
			result = append(result, s)
		}
		return result
	}
	f.Body = numbered(l)
	return f
}

// Short ways to write statements and parameters:

var condition = []api.Expr{{Kind: api.EVar, Name: "q"}}

func block(l ...api.Stmt) []api.Stmt { return l }
func read() api.Stmt                 { return api.Stmt{Kind: api.SRead, Name: "q"} }
func loop(l ...api.Stmt) api.Stmt    { return api.Stmt{Kind: api.SWhile, Args: condition, Body: l} }
func branch(l, other []api.Stmt) api.Stmt {
	return api.Stmt{Kind: api.SIf, Args: condition, Body: l, Else: other}
}
func declare(name string, kind int) api.Stmt {
	return api.Stmt{Kind: api.SVar, Name: name, Type: kind}
}
func param(name string, kind int) api.Param { return api.Param{Name: name, Type: kind} }

// simple are the statements without blocks of small functions.
var simple = []string{"read q; ", "var x int; ", "var y bool; "}

// lists returns all lists of statements that are n, with those in their blocks.
func lists(n int) []string {
	if n == 0 {
		return []string{""}
	}
	var l []string
	for inner := range n {
		for _, first := range statements(inner) {
			for _, behind := range lists(n - 1 - inner) {
				l = append(l, first+behind)
			}
		}
	}
	return l
}

// statements returns all statements that have n others in their blocks.
func statements(n int) []string {
	var l []string
	if n == 0 {
		l = slices.Clone(simple)
	}
	for other := range n + 1 {
		for _, text := range lists(other) {
			for _, body := range lists(n - other) {
				l = append(l, "if q { "+body+"} else { "+text+"} ")
			}
		}
	}
	for _, body := range lists(n) {
		l = append(l, "while q { "+body+"} ")
	}
	return l
}

// small returns all functions with these parameters and up to so many statements.
func small(t *testing.T, head string, most int) []api.Func {
	var l []api.Func
	for n := range most + 1 {
		for _, text := range lists(n) {
			l = append(l, function(t, head, text))
		}
	}
	return l
}

// P10.1 and P10.2: all functions with up to four statements that have blocks in all ways, and declarations of two names.
func TestAllSmallFunctions(t *testing.T) {
	count := map[api.Errno]int{}
	for _, head := range []string{"()", "(x array)", "(z int, y bool)"} {
		for _, f := range small(t, head, 4) {
			matches(t, f)
			count[defined(f).err]++
		}
	}
	if count[api.OK]+count[api.ErrName] != 3*(1+5+40+420+5085) || count[api.ErrName] < 5000 {
		t.Errorf("%v", count)
	}
}

// random returns a source of numbers that are always the same.
func random(seed, sort uint64) *rand.Rand { return rand.New(rand.NewPCG(seed, sort)) }

// maker makes random functions.
type maker struct {
	*rand.Rand
	names int // how many names there are; 0 if each one is new
	used  int
	vars  int // how many of 16 statements are declarations
}

// name returns a name, possibly one that was returned before.
func (m *maker) name() string {
	m.used++
	if m.names > 0 {
		return "v" + strconv.Itoa(m.IntN(m.names))
	}
	return "w" + strconv.Itoa(m.used)
}

// block returns statements with a height of at most this one, possibly none.
func (m *maker) block(height int) []api.Stmt {
	var l []api.Stmt
	for range m.IntN(5) {
		l = append(l, m.stmt(height))
	}
	return l
}

// stmt returns a statement with a height of at most this one.
func (m *maker) stmt(height int) api.Stmt {
	if m.IntN(16) < m.vars {
		s := declare(m.name(), 1+m.IntN(3))
		s.Args = condition[m.IntN(2):]
		return s
	}
	var l, other []api.Stmt
	if height > 1 {
		l, other = m.block(height-1), m.block(height-1)
	}
	switch m.IntN(4) {
	case 0:
		return []api.Stmt{
			{Kind: api.SSet, Name: "v1", Args: condition},
			{Kind: api.SStore, Name: "v1", Args: append(condition, condition...)},
			{Kind: api.SNew, Name: "w1", Args: condition},
			{Kind: api.SRead, Name: "w1"},
			{Kind: api.SPrint, Args: condition},
			{Kind: api.SCall, Name: "v2", Callee: "v3", Args: condition},
			{Kind: api.SReturn},
		}[m.IntN(7)]
	case 1:
		return loop(l...)
	}
	return branch(l, other)
}

// function returns a function with the right shape.
func (m *maker) function(height int) api.Func {
	for {
		var l []api.Stmt
		for range m.IntN(12) {
			l = append(l, m.block(height)...)
		}
		var params []api.Param
		for range m.IntN(9) {
			params = append(params, param(m.name(), 1+m.IntN(3)))
		}
		if f := built(params, l...); f.Count <= api.MaxPoints {
			return f
		}
	}
}

// randomFuncs returns random functions: some have few names, some many, and some more than 50.
func randomFuncs(n int, sort uint64) []api.Func {
	var l []api.Func
	for seed := range uint64(n) {
		r := random(seed, sort)
		m := &maker{Rand: r, names: []int{0, 0, 5, 40, 400}[r.IntN(5)], vars: 1 + r.IntN(15)}
		l = append(l, m.function(1+r.IntN(6)))
	}
	return l
}

// P10.1 and P10.2: random functions.
func TestRandomFunctions(t *testing.T) {
	count := map[api.Errno]int{}
	many := 0
	for _, f := range randomFuncs(2000, 1) {
		matches(t, f)
		d := defined(f)
		count[d.err]++
		if d.err == api.OK && len(d.vars) > 20 {
			many++
		}
	}
	if count[api.OK] < 500 || count[api.ErrName] < 500 || count[api.ErrMany] < 50 || many < 50 {
		t.Errorf("%v, %d", count, many)
	}
}
