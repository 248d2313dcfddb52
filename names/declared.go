package names

import (
	"iter"

	"rewind/api"
	"rewind/points"
)

// declarations yields the variables that a function with the right shape declares, in order, whether their names are different or not.
func declarations(f api.Func) iter.Seq[Var] {
	return func(yield func(Var) bool) {
		for _, p := range f.Params {
			if !yield(Var{Name: p.Name, Type: p.Type, No: -1, From: 0, To: f.Count + 1}) {
				return
			}
		}
		for no, s := range points.All(f) {
			if s.Kind == api.SVar && !yield(Var{Name: s.Name, Type: s.Type, No: no, From: no + 1, To: end(f, no)}) {
				return
			}
		}
	}
}

// end returns the point up to which a variable is in scope that a statement declares.
func end(f api.Func, no int) int {
	if _, nested, _ := points.Parent(f, no); !nested {
		// The end of the function, behind its last statement, is a point of its block, too.
		return f.Count + 1
	}
	last, _ := points.Last(f, no)
	return last + 1
}
