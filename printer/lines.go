package printer

import (
	"strings"

	"rewind/api"
	"rewind/number"
)

// line is a line of a program.
type line struct {
	text string
	head bool // the head of a statement stands in it
	no   int  // the number of this statement
}

// margin returns what stands ahead of a line in a list.
func (l line) margin() string {
	if !l.head {
		return "    "
	}
	no := number.Text(int64(l.no))
	// The numbers of a function that can be listed have at most three digits.
	return strings.Repeat(" ", 3-len(no)) + no + " "
}

// printer collects the lines of functions.
type printer struct {
	lines []line
	depth int // how many tabs stand ahead of the next line
}

// each calls do for all elements of a list.
func each[T any](list []T, do func(T)) {
	for _, x := range list {
		do(x)
	}
}

// add collects a line that has no head.
func (p *printer) add(text string) { p.lines = append(p.lines, line{text: p.tabs() + text}) }

// addHead collects the line with the head of a statement, and what follows in it.
func (p *printer) addHead(s api.Stmt, behind string) {
	p.lines = append(p.lines, line{p.tabs() + head(s) + behind, true, s.No})
}

// tabs returns what stands ahead of all else in the next line.
func (p *printer) tabs() string { return strings.Repeat("\t", p.depth) }

// function collects the lines of a function, behind an empty one if there are others in front of it.
func (p *printer) function(f api.Func) {
	if len(p.lines) > 0 {
		p.add("")
	}
	p.add(opening(f))
	p.block(f.Body)
	p.add("}")
}

// block collects the lines of statements, one deeper.
func (p *printer) block(list []api.Stmt) {
	p.depth++
	each(list, p.statement)
	p.depth--
}

// statement collects the lines of a statement.
func (p *printer) statement(s api.Stmt) {
	if s.Kind != api.SIf && s.Kind != api.SWhile {
		p.addHead(s, "")
		return
	}
	p.addHead(s, " {")
	p.block(s.Body)
	if len(s.Else) > 0 {
		p.add("} else {")
		p.block(s.Else)
	}
	p.add("}")
}

// text returns the lines that were collected.
func (p *printer) text() string {
	var b strings.Builder
	for _, l := range p.lines {
		b.WriteString(l.text + "\n")
	}
	return b.String()
}

// list returns the lines that were collected, with the numbers of the statements ahead of them.
func (p *printer) list() string {
	var b strings.Builder
	for _, l := range p.lines {
		b.WriteString(l.margin() + l.text + "\n")
	}
	return b.String()
}
