package place_test

import (
	"math"
	"strconv"
	"strings"
	"testing"

	"rewind/api"
	"rewind/place"
)

// sample is the text of the chapter's examples.
const sample = "ab\n\nc"

// extremes are numbers around all borders of lines, columns and offsets of short texts.
var extremes = []int{math.MinInt, math.MinInt + 1, -1 << 32, -2, -1, 0, 1, 2, 3, 4, 5, 6, 7, 8, 1 << 32, math.MaxInt - 1, math.MaxInt}

// at returns a place.
func at(line, col int) api.Place { return api.Place{Line: line, Col: col} }

// texts returns all texts of at most five bytes of three kinds (one of them no character), and some longer ones.
func texts() []string {
	all := []string{""}
	for from, length := 0, 1; length <= 5; length++ {
		end := len(all)
		for _, s := range all[from:end] {
			all = append(all, s+"a", s+"\n", s+"\xff")
		}
		from = end
	}
	return append(all,
		"func main() {\n\tprint 1;\n}\n",
		"\r\n\u00e9\u2028\n\v\f\x00\n\n\n",
		strings.Repeat("\n", 300),
		strings.Repeat("x", 300),
		strings.Repeat("long line\n", 50)+"end",
	)
}

// defined returns the place of an offset as the definition says it.
func defined(text string, offset int) api.Place {
	before := text[:offset]
	start := strings.LastIndexByte(before, '\n') + 1
	return at(1+strings.Count(before, "\n"), 1+offset-start)
}

// P1.1
func TestOfIsTheDefinedPlace(t *testing.T) {
	for _, text := range texts() {
		for offset := 0; offset <= len(text); offset++ {
			p, e := place.Of(text, offset)
			if want := defined(text, offset); p != want || e != api.OK {
				t.Errorf("Of(%q, %d) = %v, %d; want %v", text, offset, p, e, want)
			}
		}
	}
}

// P1.1
func TestOfOutsideTheText(t *testing.T) {
	for _, text := range []string{"", "\n", "x", sample, sample + "\n"} {
		for _, offset := range append([]int{-1, len(text) + 1}, extremes...) {
			if 0 <= offset && offset <= len(text) {
				continue
			}
			if p, e := place.Of(text, offset); p != (api.Place{}) || e != api.ErrRange {
				t.Errorf("Of(%q, %d) = %v, %d", text, offset, p, e)
			}
		}
	}
}

// P1.1
func TestOffsetIsThatOfTheDefinedPlace(t *testing.T) {
	for _, text := range texts() {
		for offset := 0; offset <= len(text); offset++ {
			p := defined(text, offset)
			if n, e := place.Offset(text, p); n != offset || e != api.OK {
				t.Errorf("Offset(%q, %v) = %d, %d; want %d", text, p, n, e, offset)
			}
		}
	}
}

// P1.1: a place is in the text if it is that of an offset, and nothing else is, whatever its numbers are.
func TestOffsetOfPlacesThatAreNotInTheText(t *testing.T) {
	for _, text := range []string{"", "\n", "\n\n", "x", "x\n", "\nx", sample, sample + "\n"} {
		in := map[api.Place]bool{}
		for offset := 0; offset <= len(text); offset++ {
			in[defined(text, offset)] = true
		}
		for _, line := range extremes {
			for _, col := range extremes {
				p := at(line, col)
				n, e := place.Offset(text, p)
				if in[p] != (e == api.OK) {
					t.Errorf("Offset(%q, %v) = %d, %d", text, p, n, e)
				}
				if !in[p] && (n != 0 || e != api.ErrRange) {
					t.Errorf("Offset(%q, %v) = %d, %d", text, p, n, e)
				}
			}
		}
	}
}

// P1.1 and P1.2: the table of the chapter.
func TestExamplesOfTheChapter(t *testing.T) {
	for offset, want := range map[int]api.Place{0: at(1, 1), 2: at(1, 3), 3: at(2, 1), 4: at(3, 1), 5: at(3, 2)} {
		if p, e := place.Of(sample, offset); p != want || e != api.OK {
			t.Error(offset, p, e)
		}
	}
	for _, offset := range []int{6, -1} {
		if p, e := place.Of(sample, offset); p != at(0, 0) || e != api.ErrRange {
			t.Error(offset, p, e)
		}
	}
	for p, want := range map[api.Place]int{at(1, 3): 2, at(3, 2): 5} {
		if n, e := place.Offset(sample, p); n != want || e != api.OK {
			t.Error(p, n, e)
		}
	}
	for _, p := range []api.Place{at(1, 4), at(2, 2), at(0, 1), at(4, 1)} {
		if n, e := place.Offset(sample, p); n != 0 || e != api.ErrRange {
			t.Error(p, n, e)
		}
	}
	if n := place.Count(sample); n != 3 {
		t.Error(n)
	}
	for i, want := range []string{"ab", "", "c"} {
		if s, e := place.Line(sample, i+1); s != want || e != api.OK {
			t.Error(i, s, e)
		}
	}
	if s, e := place.Line(sample, 4); s != "" || e != api.ErrRange {
		t.Error(s, e)
	}
	if p, e := place.Of("", 0); place.Count("") != 1 || p != at(1, 1) || e != api.OK {
		t.Error(place.Count(""), p, e)
	}
}

// P1.2
func TestLineAndCount(t *testing.T) {
	for _, text := range texts() {
		want := strings.Split(text, "\n")
		if n := place.Count(text); n != len(want) {
			t.Errorf("Count(%q) = %d", text, n)
		}
		for i, line := range want {
			if s, e := place.Line(text, i+1); s != line || e != api.OK {
				t.Errorf("Line(%q, %d) = %q, %d", text, i+1, s, e)
			}
		}
		for _, n := range append([]int{len(want) + 1}, extremes...) {
			if 1 <= n && n <= len(want) {
				continue
			}
			if s, e := place.Line(text, n); s != "" || e != api.ErrRange {
				t.Errorf("Line(%q, %d) = %q, %d", text, n, s, e)
			}
		}
	}
}

// P1.3
func TestCompare(t *testing.T) {
	for _, x := range []struct {
		a, b api.Place
		want int
	}{
		{at(1, 1), at(1, 1), 0},
		{at(0, 0), at(0, 0), 0},
		{at(-3, -5), at(-3, -5), 0},
		{at(1, 1), at(1, 2), -1},
		{at(1, 9), at(2, 1), -1},
		{at(2, 1), at(1, 9), 1},
		{at(2, 9), at(2, 8), 1},
		{at(-1, 5), at(0, 0), -1},
		{at(0, -1), at(0, 0), -1},
		{at(math.MinInt, 0), at(math.MaxInt, 0), -1},
		{at(0, math.MaxInt), at(0, math.MinInt), 1},
		{at(math.MaxInt, math.MinInt), at(math.MaxInt, math.MaxInt), -1},
	} {
		if n := place.Compare(x.a, x.b); n != x.want {
			t.Errorf("Compare(%v, %v) = %d", x.a, x.b, n)
		}
		if n := place.Compare(x.b, x.a); n != -x.want {
			t.Errorf("Compare(%v, %v) = %d", x.b, x.a, n)
		}
	}
}

// P1.3: places with any numbers are in the order of their lines, and then of their columns.
func TestCompareIsAnOrder(t *testing.T) {
	var ordered []api.Place
	for _, line := range extremes {
		for _, col := range extremes {
			ordered = append(ordered, at(line, col))
		}
	}
	for i, a := range ordered {
		for j, b := range ordered {
			want := 0
			if i < j {
				want = -1
			} else if i > j {
				want = 1
			}
			if n := place.Compare(a, b); n != want {
				t.Fatalf("Compare(%v, %v) = %d", a, b, n)
			}
		}
	}
}

// P1.4
func TestText(t *testing.T) {
	for want, p := range map[string]api.Place{
		"3:2":                   at(3, 2),
		"1:1":                   at(1, 1),
		"10:200":                at(10, 200),
		"1:9223372036854775807": at(1, math.MaxInt),
	} {
		if s, e := place.Text(p); s != want || e != api.OK {
			t.Errorf("Text(%v) = %q, %d", p, s, e)
		}
	}
	for _, bad := range []int{0, -1, math.MinInt} {
		for _, p := range []api.Place{at(bad, 1), at(1, bad), at(bad, bad), at(bad, math.MaxInt)} {
			if s, e := place.Text(p); s != "" || e != api.ErrArg {
				t.Errorf("Text(%v) = %q, %d", p, s, e)
			}
		}
	}
}

// P1.4
func TestParse(t *testing.T) {
	for s, want := range map[string]api.Place{
		"3:2":                   at(3, 2),
		"1:1":                   at(1, 1),
		"100:10":                at(100, 10),
		"9223372036854775807:1": at(math.MaxInt, 1),
	} {
		if p, e := place.Parse(s); p != want || e != api.OK {
			t.Errorf("Parse(%q) = %v, %d", s, p, e)
		}
	}
}

// P1.4
func TestParseOfOtherStrings(t *testing.T) {
	for _, s := range []string{
		"", ":", "::", "3", "3:", ":2", "3:02", "03:2", "3:2:", ":3:2", "3:2:1", "0:1", "1:0", "0:0", "00:1",
		"-3:2", "3:-2", "+3:2", "3:+2", " 3:2", "3:2 ", "3 :2", "3: 2", "3:2\n", "\n3:2", "3:2\x00",
		"3;2", "3.2", "3,2", "a:b", "0x3:2", "3e0:2", "3.0:2", "1_0:2", "2:1_0", "\u0663:2", "3\uff1a2", "\xff:1",
		"9223372036854775808:1", "1:9223372036854775808", "18446744073709551617:1",
		strings.Repeat("9", 1000) + ":1", "1:" + strings.Repeat("0", 1000) + "1",
	} {
		if p, e := place.Parse(s); p != (api.Place{}) || e != api.ErrForm {
			t.Errorf("Parse(%q) = %v, %d", s, p, e)
		}
	}
}

// P1.5
func TestOfAndOffsetAreInverse(t *testing.T) {
	for _, text := range texts() {
		last := api.Place{}
		for offset := 0; offset <= len(text); offset++ {
			p, e := place.Of(text, offset)
			n, f := place.Offset(text, p)
			if e != api.OK || n != offset || f != api.OK {
				t.Errorf("%q: offset %d has place %v (%d), which has offset %d (%d)", text, offset, p, e, n, f)
			}
			if place.Compare(p, last) != 1 || place.Compare(last, p) != -1 {
				t.Errorf("%q: place %v of offset %d is not behind %v", text, p, offset, last)
			}
			last = p
		}
	}
}

// P1.5: each place that has an offset is the place of this offset.
func TestOffsetAndOfAreInverse(t *testing.T) {
	for _, text := range texts() {
		if len(text) > 5 {
			continue
		}
		for line := -1; line <= len(text)+2; line++ {
			for col := -1; col <= len(text)+2; col++ {
				n, e := place.Offset(text, at(line, col))
				if e != api.OK {
					continue
				}
				if p, f := place.Of(text, n); p != at(line, col) || f != api.OK {
					t.Errorf("%q: place %d:%d has offset %d, which has place %v (%d)", text, line, col, n, p, f)
				}
			}
		}
	}
}

// P1.6
func TestLinesWithLineFeedsAreTheText(t *testing.T) {
	for _, text := range texts() {
		var lines []string
		for n := 1; n <= place.Count(text); n++ {
			s, e := place.Line(text, n)
			if e != api.OK || strings.Contains(s, "\n") {
				t.Errorf("Line(%q, %d) = %q, %d", text, n, s, e)
			}
			lines = append(lines, s)
		}
		if whole := strings.Join(lines, "\n"); whole != text {
			t.Errorf("the lines of %q are those of %q", text, whole)
		}
	}
}

// P1.7
func TestPlacesAreDecodedFromTheirStrings(t *testing.T) {
	numbers := []int{1, 2, 9, 10, 11, 99, 100, 101, 1<<31 - 1, 1 << 31, 1 << 32, math.MaxInt - 1, math.MaxInt}
	for _, line := range numbers {
		for _, col := range numbers {
			s, e := place.Text(at(line, col))
			p, f := place.Parse(s)
			if e != api.OK || p != at(line, col) || f != api.OK {
				t.Errorf("%d:%d has string %q (%d), which is that of %v (%d)", line, col, s, e, p, f)
			}
		}
	}
}

// P1.7: whatever Parse accepts is the string of its result; of all strings of up to five of these bytes.
func TestStringsThatParseAcceptsAreThoseOfTheirPlaces(t *testing.T) {
	accepted := 0
	var visit func(s string)
	visit = func(s string) {
		p, e := place.Parse(s)
		back, f := place.Text(p)
		switch {
		case e == api.OK && (f != api.OK || back != s):
			t.Errorf("Parse(%q) = %v, whose string is %q (%d)", s, p, back, f)
		case e == api.OK:
			accepted++
		case e != api.ErrForm || p != (api.Place{}):
			t.Errorf("Parse(%q) = %v, %d", s, p, e)
		}
		if len(s) == 5 {
			return
		}
		for _, c := range []byte("012:+- ") {
			visit(s + string(rune(c)))
		}
	}
	visit("")
	// Parts of n bytes from 0, 1 and 2, without a 0 ahead, are 2, 6 and 18; both parts have at most four bytes.
	if want := 2*2 + 2*(2*6) + (2*(2*18) + 6*6); accepted != want {
		t.Errorf("%d strings are accepted, not %d", accepted, want)
	}
}

// P1.1 and P1.2: texts may have any length.
func TestLongTexts(t *testing.T) {
	const n = 1 << 20
	for _, line := range []string{"", "x", strings.Repeat("y", 99)} {
		text := strings.Repeat(line+"\n", n/(len(line)+1))
		lines := strings.Count(text, "\n") + 1
		if got := place.Count(text); got != lines {
			t.Error(got, lines)
		}
		if p, e := place.Of(text, len(text)); p != at(lines, 1) || e != api.OK {
			t.Error(p, e)
		}
		if k, e := place.Offset(text, at(lines, 1)); k != len(text) || e != api.OK {
			t.Error(k, e)
		}
		if s, e := place.Line(text, lines-1); s != line || e != api.OK {
			t.Error(len(s), e)
		}
	}
	text := strings.Repeat("z", n)
	if p, e := place.Of(text, n); p != at(1, n+1) || e != api.OK {
		t.Error(p, e)
	}
	if s, e := place.Text(at(1, n+1)); s != "1:"+strconv.Itoa(n+1) || e != api.OK {
		t.Error(s, e)
	}
}
