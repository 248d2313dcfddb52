// Package place is layer 1: places in a text. See shared/doc/01-place.md.
package place

import (
	"cmp"
	"iter"
	"strconv"
	"strings"

	"rewind/api"
)

// row is a line of a text, without its line feed, and the offset at which it begins.
type row struct {
	number int
	start  int
	text   string
}

// rows yields the lines of a text in their order. The line behind the last line feed is one, too, even if it is empty.
func rows(text string) iter.Seq[row] {
	return func(yield func(row) bool) {
		r := row{number: 1}
		for {
			line, _, more := strings.Cut(text[r.start:], "\n")
			r.text = line
			if !yield(r) || !more {
				return
			}
			r.number++
			r.start += len(line) + 1
		}
	}
}

// find returns the line with a number, if there is one.
func find(text string, number int) (row, bool) {
	for r := range rows(text) {
		if r.number == number {
			return r, true
		}
	}
	return row{}, false
}

// Of returns the place of an offset.
func Of(text string, offset int) (api.Place, api.Errno) {
	if offset < 0 {
		return api.Place{}, api.ErrRange
	}
	for r := range rows(text) {
		// The offset of a line feed is still in the line that it ends.
		if offset <= r.start+len(r.text) {
			return api.Place{Line: r.number, Col: offset - r.start + 1}, api.OK
		}
	}
	return api.Place{}, api.ErrRange
}

// Offset returns the offset of a place.
func Offset(text string, p api.Place) (int, api.Errno) {
	r, ok := find(text, p.Line)
	// The column is compared before anything is added to it: it may be the greatest number that there is.
	if !ok || p.Col < 1 || p.Col-1 > len(r.text) {
		return 0, api.ErrRange
	}
	return r.start + p.Col - 1, api.OK
}

// Line returns a line of a text, without its line feed.
func Line(text string, n int) (string, api.Errno) {
	r, ok := find(text, n)
	if !ok {
		return "", api.ErrRange
	}
	return r.text, api.OK
}

// Count returns the number of lines.
func Count(text string) int {
	n := 0
	for range rows(text) {
		n++
	}
	return n
}

// Compare compares two places.
func Compare(a, b api.Place) int {
	if a == b {
		return 0
	}
	if a.Line != b.Line {
		return cmp.Compare(a.Line, b.Line)
	}
	return cmp.Compare(a.Col, b.Col)
}

// Text returns a place as a string.
func Text(p api.Place) (string, api.Errno) {
	if p.Line < 1 || p.Col < 1 {
		return "", api.ErrArg
	}
	return strconv.Itoa(p.Line) + ":" + strconv.Itoa(p.Col), api.OK
}

// Parse decodes what Text returns.
func Parse(s string) (api.Place, api.Errno) {
	line, col, _ := strings.Cut(s, ":")
	p := api.Place{Line: number(line), Col: number(col)}
	// Signs, leading zeros and the like are noticed because the string of the place is another one.
	text, e := Text(p)
	if e != api.OK || text != s {
		return api.Place{}, api.ErrForm
	}
	return p, api.OK
}

// number returns the number that digits stand for, or 0, which no place has, if they stand for none.
func number(digits string) int {
	n, err := strconv.Atoi(digits)
	if err != nil {
		return 0
	}
	return n
}
