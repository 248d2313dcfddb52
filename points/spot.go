package points

import (
	"iter"

	"rewind/api"
	"rewind/shape"
)

// spot is where a statement stands.
type spot struct {
	block  []api.Stmt // the block of the statement
	index  int        // its index in the block
	parent *spot      // where the statement around the block stands; nil if the block is the function's own
}

// right reports whether a function has the right shape.
func right(f api.Func) bool {
	return shape.Check(api.Program{Funcs: []api.Func{f}}) == api.OK
}

// find returns where the statement with a number stands.
func find(f api.Func, no int) (*spot, api.Errno) {
	if !right(f) {
		return nil, api.ErrArg
	}
	for s := range spots(f.Body, nil) {
		if s.stmt().No == no {
			return s, api.OK
		}
	}
	return nil, api.ErrRange
}

// spots yields where the statements of a block and all that are nested in them stand, in the order of the text.
func spots(block []api.Stmt, parent *spot) iter.Seq[*spot] {
	return func(yield func(*spot) bool) {
		for i, x := range block {
			s := &spot{block, i, parent}
			if !yield(s) {
				return
			}
			for _, inner := range [...][]api.Stmt{x.Body, x.Else} {
				for nested := range spots(inner, s) {
					if !yield(nested) {
						return
					}
				}
			}
		}
	}
}

// stmt returns the statement that stands there.
func (s *spot) stmt() api.Stmt { return s.block[s.index] }

// behind returns the point behind the statement, in a function with this end.
func (s *spot) behind(end int) int {
	if s.index+1 < len(s.block) {
		return s.block[s.index+1].No
	}
	if s.parent == nil {
		return end
	}
	if x := s.parent.stmt(); x.Kind == api.SWhile {
		return x.No
	}
	return s.parent.behind(end)
}

// depth returns how many parents there are, one around the other.
func (s *spot) depth() int {
	if s.parent == nil {
		return 0
	}
	return s.parent.depth() + 1
}

// first returns the number of the first statement of a block, or another point if it has none.
func first(block []api.Stmt, otherwise int) int {
	if len(block) == 0 {
		return otherwise
	}
	return block[0].No
}

// last returns the greatest number in a block that has statements.
func last(block []api.Stmt) int {
	x := block[len(block)-1]
	switch {
	case len(x.Else) > 0:
		return last(x.Else)
	case len(x.Body) > 0:
		return last(x.Body)
	}
	return x.No
}
