package number_test

import (
	"math"
	"math/big"
	"regexp"
	"slices"
	"strconv"
	"strings"
	"testing"

	"rewind/api"
	"rewind/number"
)

// least and greatest are the borders of the numbers.
const (
	least    = math.MinInt64
	greatest = math.MaxInt64
)

// written are the strings of integers as the chapter defines them; those of numbers are not too large, besides.
var written = regexp.MustCompile(`^(0|-?[1-9][0-9]*)$`)

// numbers returns numbers around all borders that matter to wrapping, to dividing and to writing.
func numbers() []int64 {
	l := []int64{least, least + 1, -1, 0, 1, greatest - 1, greatest}
	for n := int64(2); n <= 12; n++ {
		l = append(l, n, -n)
	}
	// The square roots of 2^63 and of 2^64, whose products just do, or do not, wrap.
	for _, n := range []int64{3037000499, 3037000500, 1<<32 - 1, 1 << 32, 1<<32 + 1, 1<<62 - 1, 1 << 62, 1<<62 + 1} {
		l = append(l, n, -n)
	}
	for n := int64(100); n <= greatest/1000; n *= 1000 {
		l = append(l, n-1, n, -n, 1-n)
	}
	return append(l, mixed(20)...)
}

// mixed returns numbers with bits all over them, always the same.
func mixed(count int) []int64 {
	var l []int64
	for x := uint64(0x9e3779b97f4a7c15); len(l) < count; {
		x ^= x << 13
		x ^= x >> 7
		x ^= x << 17
		l = append(l, int64(x))
	}
	return l
}

// wrap returns the number that an integer is wrapped to.
func wrap(n *big.Int) int64 {
	all := new(big.Int).Lsh(big.NewInt(1), 64)
	// Mod is Euclidean: never below 0.
	n = new(big.Int).Mod(n, all)
	if n.Bit(63) == 1 {
		n.Sub(n, all)
	}
	return n.Int64()
}

// defined returns what an arithmetic operator has for a result, as the chapter says it.
func defined(op int, a, b int64) (int64, int) {
	x, y, z := big.NewInt(a), big.NewInt(b), new(big.Int)
	if b == 0 && (op == api.Div || op == api.Mod) {
		return 0, api.TrapDiv
	}
	switch op {
	case api.Add:
		z.Add(x, y)
	case api.Sub:
		z.Sub(x, y)
	case api.Mul:
		z.Mul(x, y)
	case api.Div:
		z.Quo(x, y)
	case api.Mod:
		z.Sub(x, z.Mul(y, z.Quo(x, y)))
	}
	return wrap(z), 0
}

// do returns the result of an operator that has one.
func do(t *testing.T, op int, a, b int64) int64 {
	t.Helper()
	n, trap, e := number.Do(op, a, b)
	if trap != 0 || e != api.OK {
		t.Errorf("Do(%d, %d, %d) = %d, %d, %d", op, a, b, n, trap, e)
	}
	return n
}

// holds returns the result of a comparison.
func holds(t *testing.T, op int, a, b int64) bool {
	t.Helper()
	yes, e := number.Compare(op, a, b)
	if e != api.OK {
		t.Errorf("Compare(%d, %d, %d) = %v, %d", op, a, b, yes, e)
	}
	return yes
}

// strangers returns the operators that are not from first to last, and numbers that are no operators.
func strangers(first, last int) []int {
	l := []int{math.MinInt, -1 << 32, -3, -2, -1, 0, 16, 17, 100, 256 + first, 1<<32 + first, math.MaxInt}
	for op := api.Add; op <= api.Not; op++ {
		if op < first || op > last {
			l = append(l, op)
		}
	}
	return l
}

// words calls visit with all strings of at most length of the characters.
func words(characters []string, length int, visit func(s string)) {
	var extend func(s string, left int)
	extend = func(s string, left int) {
		visit(s)
		for _, c := range characters {
			if left > 0 {
				extend(s+c, left-1)
			}
		}
	}
	extend("", length)
}

// P2.1
func TestTextAndParse(t *testing.T) {
	for s, want := range map[string]int64{
		"0": 0, "1": 1, "9": 9, "10": 10, "11": 11, "99": 99, "100": 100, "1000000": 1000000,
		"-1": -1, "-9": -9, "-10": -10, "-100": -100, "-907": -907,
		"2147483647": math.MaxInt32, "2147483648": 1 << 31, "4294967296": 1 << 32, "-2147483649": math.MinInt32 - 1,
		"9223372036854775806": greatest - 1, "9223372036854775807": greatest,
		"-9223372036854775807": least + 1, "-9223372036854775808": least,
	} {
		if got := number.Text(want); got != s {
			t.Errorf("Text(%d) = %q", want, got)
		}
		if n, e := number.Parse(s); n != want || e != api.OK {
			t.Errorf("Parse(%q) = %d, %d", s, n, e)
		}
	}
}

// P2.1: the string is that of the integer, and as the chapter defines it.
func TestTextIsTheDefinedString(t *testing.T) {
	for _, n := range numbers() {
		s := number.Text(n)
		if s != big.NewInt(n).String() || !written.MatchString(s) {
			t.Errorf("Text(%d) = %q", n, s)
		}
	}
}

// P2.1
func TestParseOfOtherStrings(t *testing.T) {
	bad := []string{
		"", " ", "-", "+", "--", "+0", "-0", "+1", "-+1", "+-1", "--1", "---1", "1-", "1-1", "1+1", "-1-", "0-0",
		"00", "01", "007", "-00", "-01", "000000000000000000000", "00000000000000000000000000000001",
		" 1", "1 ", "- 1", "-1 ", "1 2", "\t1", "1\n", "\n1", "1\r\n", "1\x00", "\x001", "1\v", "\u00a01", "1\u00a0",
		"a", "1a", "a1", "0x1", "0b1", "0o7", "x", "A", "1e3", "1.0", "1.", ".1", "1_000", "_1", "1_", "1,", ",1", "1,2", "1;2", "1'0", "1:", "/1", "0:", ":", "/",
		"inf", "nan", "true", "Inf", "NaN", "(1)",
		"\u0663", "\u0661\u0662", "\uff11", "1\uff11", "\u2212" + "1", "\u00b2", "\u0be7", "\U0001d7cf", "\u0130", "\u0131",
		"\xff", "1\xff", "\xff1", "-\xff", "\x80", "\xf4\x8f\xbf\xbf", "\ufffd", "1\xcc",
	}
	for _, s := range bad {
		if n, e := number.Parse(s); n != 0 || e != api.ErrForm {
			t.Errorf("Parse(%q) = %d, %d", s, n, e)
		}
	}
}

// P2.1: an integer beyond the borders is no number, whatever it would be wrapped to.
func TestParseOfIntegersThatAreNoNumbers(t *testing.T) {
	bad := []string{
		"9223372036854775808", "9223372036854775810", "9300000000000000000", "9999999999999999999", "10000000000000000000",
		"-9223372036854775809", "-9223372036854775810", "-9300000000000000000", "-9999999999999999999", "-10000000000000000000",
		strings.Repeat("9", 40), "-" + strings.Repeat("9", 40), "1" + strings.Repeat("0", 1000), strings.Repeat("1", 1<<16),
	}
	for k := int64(-3); k <= 3; k++ {
		times := new(big.Int).Lsh(big.NewInt(k), 64)
		for _, n := range numbers() {
			if n := new(big.Int).Add(times, big.NewInt(n)); !n.IsInt64() {
				bad = append(bad, n.String())
			}
		}
	}
	for _, s := range bad {
		if n, e := number.Parse(s); n != 0 || e != api.ErrForm {
			t.Errorf("Parse(%q) = %d, %d", s, n, e)
		}
	}
}

// P2.1: of all short strings of characters that stand in numbers or beside them, just those are accepted that are strings of numbers.
func TestParseOfAllShortStrings(t *testing.T) {
	accepted := 0
	words([]string{"0", "1", "9", "-", "+", "_", ":", " ", "x", "\xff", "\u0661"}, 4, func(s string) {
		n, e := number.Parse(s)
		if !written.MatchString(s) {
			if n != 0 || e != api.ErrForm {
				t.Errorf("Parse(%q) = %d, %d", s, n, e)
			}
			return
		}
		accepted++
		if want, _ := strconv.ParseInt(s, 10, 64); n != want || e != api.OK {
			t.Errorf("Parse(%q) = %d, %d", s, n, e)
		}
	})
	// Numbers of n of these digits, without a 0 ahead, are 3 (with 0), 6, 18 and 54; below 0 there are 2, 6 and 18.
	if want := 3 + 6 + 18 + 54 + 2 + 6 + 18; accepted != want {
		t.Errorf("%d strings are accepted, not %d", accepted, want)
	}
}

// P2.2
func TestDo(t *testing.T) {
	for _, x := range []struct {
		op         int
		a, b, want int64
	}{
		{api.Add, 2, 3, 5}, {api.Add, greatest, 1, least}, {api.Add, least, -1, greatest}, {api.Add, greatest, greatest, -2}, {api.Add, least, least, 0}, {api.Add, -1, 1, 0},
		{api.Sub, 2, 3, -1}, {api.Sub, least, 1, greatest}, {api.Sub, greatest, -1, least}, {api.Sub, 0, least, least}, {api.Sub, -1, least, greatest}, {api.Sub, 5, 0, 5},
		{api.Mul, 6, -7, -42}, {api.Mul, greatest, 2, -2}, {api.Mul, least, -1, least}, {api.Mul, least, 2, 0}, {api.Mul, 1 << 32, 1 << 32, 0}, {api.Mul, 3037000500, 3037000500, -9223372036709301616},
		{api.Div, 7, 2, 3}, {api.Div, -7, 2, -3}, {api.Div, 7, -2, -3}, {api.Div, -7, -2, 3}, {api.Div, 0, -5, 0}, {api.Div, 1, 2, 0}, {api.Div, -1, 2, 0},
		{api.Div, least, -1, least}, {api.Div, least, 1, least}, {api.Div, least, least, 1}, {api.Div, greatest, least, 0}, {api.Div, greatest, -1, -greatest}, {api.Div, least, 2, -1 << 62},
		{api.Mod, 7, 2, 1}, {api.Mod, -7, 2, -1}, {api.Mod, 7, -2, 1}, {api.Mod, -7, -2, -1}, {api.Mod, 6, 3, 0}, {api.Mod, 1, 5, 1}, {api.Mod, -1, 5, -1},
		{api.Mod, least, -1, 0}, {api.Mod, least, 1, 0}, {api.Mod, least, greatest, -1}, {api.Mod, greatest, least, greatest}, {api.Mod, least, 10, -8},
	} {
		if n, trap, e := number.Do(x.op, x.a, x.b); n != x.want || trap != 0 || e != api.OK {
			t.Errorf("Do(%d, %d, %d) = %d, %d, %d; want %d", x.op, x.a, x.b, n, trap, e, x.want)
		}
	}
}

// P2.2: for all pairs of numbers the result is the wrapped integer, or the trap.
func TestDoIsTheDefinedResult(t *testing.T) {
	for op := api.Add; op <= api.Mod; op++ {
		for _, a := range numbers() {
			for _, b := range numbers() {
				want, wanted := defined(op, a, b)
				if n, trap, e := number.Do(op, a, b); n != want || trap != wanted || e != api.OK {
					t.Errorf("Do(%d, %d, %d) = %d, %d, %d; want %d, %d", op, a, b, n, trap, e, want, wanted)
				}
			}
		}
	}
}

// P2.2: dividing by 0 is trapped; nothing else is.
func TestTraps(t *testing.T) {
	for _, a := range numbers() {
		for _, op := range []int{api.Div, api.Mod} {
			if n, trap, e := number.Do(op, a, 0); n != 0 || trap != api.TrapDiv || e != api.OK {
				t.Errorf("Do(%d, %d, 0) = %d, %d, %d", op, a, n, trap, e)
			}
		}
		for _, op := range []int{api.Add, api.Sub, api.Mul} {
			if _, trap, e := number.Do(op, a, 0); trap != 0 || e != api.OK {
				t.Errorf("Do(%d, %d, 0) = %d, %d", op, a, trap, e)
			}
		}
	}
}

// P2.2: other operators are ErrArg, even if a number is divided by 0.
func TestDoOfOtherOperators(t *testing.T) {
	for _, op := range strangers(api.Add, api.Mod) {
		for _, b := range []int64{least, -1, 0, 1, greatest} {
			if n, trap, e := number.Do(op, 1, b); n != 0 || trap != 0 || e != api.ErrArg {
				t.Errorf("Do(%d, 1, %d) = %d, %d, %d", op, b, n, trap, e)
			}
		}
	}
}

// P2.3
func TestCompare(t *testing.T) {
	for _, x := range []struct {
		a, b int64
		want [6]bool // Eq, Ne, Lt, Le, Gt, Ge
	}{
		{0, 0, [6]bool{true, false, false, true, false, true}},
		{-1, 0, [6]bool{false, true, true, true, false, false}},
		{1, 0, [6]bool{false, true, false, false, true, true}},
		{least, greatest, [6]bool{false, true, true, true, false, false}},
		{greatest, least, [6]bool{false, true, false, false, true, true}},
		{least, least, [6]bool{true, false, false, true, false, true}},
		{greatest, greatest, [6]bool{true, false, false, true, false, true}},
		{1 << 32, 0, [6]bool{false, true, false, false, true, true}},
		{-1 << 32, 1, [6]bool{false, true, true, true, false, false}},
	} {
		for i, want := range x.want {
			if yes, e := number.Compare(api.Eq+i, x.a, x.b); yes != want || e != api.OK {
				t.Errorf("Compare(%d, %d, %d) = %v, %d", api.Eq+i, x.a, x.b, yes, e)
			}
		}
	}
}

// P2.3: for all pairs of numbers the comparisons are those of the integers.
func TestCompareIsTheDefinedResult(t *testing.T) {
	for _, a := range numbers() {
		for _, b := range numbers() {
			order := big.NewInt(a).Cmp(big.NewInt(b))
			for op, want := range map[int]bool{api.Eq: order == 0, api.Ne: order != 0, api.Lt: order < 0, api.Le: order <= 0, api.Gt: order > 0, api.Ge: order >= 0} {
				if yes, e := number.Compare(op, a, b); yes != want || e != api.OK {
					t.Errorf("Compare(%d, %d, %d) = %v, %d", op, a, b, yes, e)
				}
			}
		}
	}
}

// P2.3
func TestCompareOfOtherOperators(t *testing.T) {
	for _, op := range strangers(api.Eq, api.Ge) {
		for _, b := range []int64{0, 1, 2} {
			if yes, e := number.Compare(op, 1, b); yes || e != api.ErrArg {
				t.Errorf("Compare(%d, 1, %d) = %v, %d", op, b, yes, e)
			}
		}
	}
}

// P2.3
func TestNegate(t *testing.T) {
	for a, want := range map[int64]int64{0: 0, 1: -1, -1: 1, 42: -42, greatest: -greatest, -greatest: greatest, least: least} {
		if n := number.Negate(a); n != want {
			t.Errorf("Negate(%d) = %d", a, n)
		}
	}
	for _, a := range numbers() {
		if n, want := number.Negate(a), wrap(new(big.Int).Neg(big.NewInt(a))); n != want {
			t.Errorf("Negate(%d) = %d; want %d", a, n, want)
		}
	}
}

// P2.4
func TestList(t *testing.T) {
	for s, want := range map[string][]int64{
		"":           nil,
		"0":          {0},
		"-1":         {-1},
		"1,-2,3":     {1, -2, 3},
		"3,2,1":      {3, 2, 1},
		"7,7,7,7":    {7, 7, 7, 7},
		"0,0":        {0, 0},
		"10,-10,100": {10, -10, 100},
		"-9223372036854775808,9223372036854775807": {least, greatest},
	} {
		if l, e := number.List(s); !slices.Equal(l, want) || e != api.OK {
			t.Errorf("List(%q) = %v, %d", s, l, e)
		}
	}
}

// P2.4
func TestListOfOtherStrings(t *testing.T) {
	for _, s := range []string{
		",", ",,", "1,", ",1", "1,,2", ",1,2", "1,2,", "1,2,,", ",,1", "1, 2", "1 ,2", " 1,2", "1,2 ", " ", "\n", "1,2\n", "1,\n2", "1\t,2",
		"1;2", "1 2", "1.2", "1,2.", "1\uff0c2", "1\u060c2", "1,a", "a", "1,+2", "+1", "01", "1,02", "-0", "1,-0", "1,--2", "1,-", "-,1", "[1,2]", "(1)",
		"-9223372036854775808,", "9223372036854775808", "1,-9223372036854775809", "1,18446744073709551617", "1,\xff", "1\x00,2", "1,\x00",
	} {
		if l, e := number.List(s); len(l) != 0 || e != api.ErrForm {
			t.Errorf("List(%q) = %v, %d", s, l, e)
		}
	}
}

// P2.4: of all short strings just those are accepted that are strings of numbers with one comma between two of them.
func TestListOfAllShortStrings(t *testing.T) {
	words([]string{"0", "1", "-", ",", " "}, 6, func(s string) {
		var want []int64
		good := true
		if s != "" {
			for _, part := range strings.Split(s, ",") {
				n, err := strconv.ParseInt(part, 10, 64)
				good = good && err == nil && written.MatchString(part)
				want = append(want, n)
			}
		}
		l, e := number.List(s)
		if good && (!slices.Equal(l, want) || e != api.OK) {
			t.Errorf("List(%q) = %v, %d; want %v", s, l, e, want)
		}
		if !good && (len(l) != 0 || e != api.ErrForm) {
			t.Errorf("List(%q) = %v, %d", s, l, e)
		}
	})
}

// P2.4: lists may have any length; an error anywhere in them is found.
func TestLongLists(t *testing.T) {
	var parts []string
	want := mixed(20000)
	for _, n := range want {
		parts = append(parts, number.Text(n))
	}
	if l, e := number.List(strings.Join(parts, ",")); !slices.Equal(l, want) || e != api.OK {
		t.Errorf("a list of %d numbers has %d (%d)", len(want), len(l), e)
	}
	for _, i := range []int{0, 1, 9999, 19998, 19999} {
		other := slices.Clone(parts)
		other[i] = "-0"
		if l, e := number.List(strings.Join(other, ",")); len(l) != 0 || e != api.ErrForm {
			t.Errorf("a list with an error at %d has %d numbers (%d)", i, len(l), e)
		}
	}
}

// P2.4, with R4 and R8: each result is new memory, and equal calls have equal results.
func TestListsAreNewMemory(t *testing.T) {
	first, _ := number.List("1,-2,3")
	second, _ := number.List("1,-2,3")
	for i := range first {
		first[i] = 99
	}
	_ = append(first[:0], 98, 97, 96)
	third, _ := number.List("1,-2,3")
	for _, l := range [][]int64{second, third} {
		if !slices.Equal(l, []int64{1, -2, 3}) {
			t.Errorf("a list became %v", l)
		}
	}
}

// P2.5
func TestNumbersAreFoundAgainFromTheirStrings(t *testing.T) {
	list := append(numbers(), mixed(10000)...)
	for n := int64(-20000); n <= 20000; n++ {
		list = append(list, n)
	}
	for _, n := range list {
		s := number.Text(n)
		if back, e := number.Parse(s); back != n || e != api.OK {
			t.Errorf("%d has string %q, which is that of %d (%d)", n, s, back, e)
		}
		if back, e := number.List(s); !slices.Equal(back, []int64{n}) || e != api.OK {
			t.Errorf("%d has string %q, which is the list %v (%d)", n, s, back, e)
		}
	}
}

// P2.5: strings with a character changed, added or taken away are decoded to what has them as its string, or not at all.
func TestDecodedNumbersHaveTheirStrings(t *testing.T) {
	check := func(s string) {
		n, e := number.Parse(s)
		if e == api.OK && number.Text(n) != s || e != api.OK && (e != api.ErrForm || n != 0) {
			t.Errorf("Parse(%q) = %d, %d", s, n, e)
		}
	}
	for _, n := range numbers() {
		s := strconv.FormatInt(n, 10)
		for i := range s {
			check(s[:i] + s[i+1:])
			for c := range 256 {
				check(s[:i] + string([]byte{byte(c)}) + s[i+1:])
				check(s[:i] + string([]byte{byte(c)}) + s[i:])
				check(s + string([]byte{byte(c)}))
			}
		}
	}
}

// P2.6
func TestLawsOfTwoNumbers(t *testing.T) {
	for _, a := range numbers() {
		if n := number.Negate(number.Negate(a)); n != a {
			t.Errorf("negating %d twice is %d", a, n)
		}
		for _, b := range numbers() {
			if do(t, api.Add, a, b) != do(t, api.Add, b, a) {
				t.Errorf("%d + %d is not commutative", a, b)
			}
			if do(t, api.Mul, a, b) != do(t, api.Mul, b, a) {
				t.Errorf("%d * %d is not commutative", a, b)
			}
			if do(t, api.Sub, a, b) != do(t, api.Add, a, number.Negate(b)) {
				t.Errorf("%d - %d is not adding the negative number", a, b)
			}
		}
	}
}

// P2.6
func TestLawsOfThreeNumbers(t *testing.T) {
	all := numbers()
	for _, a := range all {
		for _, b := range all {
			sum, product := do(t, api.Add, a, b), do(t, api.Mul, a, b)
			for _, c := range all {
				if do(t, api.Add, sum, c) != do(t, api.Add, a, do(t, api.Add, b, c)) {
					t.Errorf("%d + %d + %d is not associative", a, b, c)
				}
				if do(t, api.Mul, product, c) != do(t, api.Mul, a, do(t, api.Mul, b, c)) {
					t.Errorf("%d * %d * %d is not associative", a, b, c)
				}
				if do(t, api.Mul, c, sum) != do(t, api.Add, do(t, api.Mul, c, a), do(t, api.Mul, c, b)) {
					t.Errorf("%d * (%d + %d) is not distributive", c, a, b)
				}
			}
		}
	}
}

// P2.7
func TestQuotients(t *testing.T) {
	for _, a := range numbers() {
		for _, b := range numbers() {
			if b == 0 {
				continue
			}
			quotient, remainder := do(t, api.Div, a, b), do(t, api.Mod, a, b)
			if do(t, api.Add, do(t, api.Mul, quotient, b), remainder) != a {
				t.Errorf("%d / %d = %d, remainder %d", a, b, quotient, remainder)
			}
			if remainder != 0 && (remainder < 0) != (a < 0) {
				t.Errorf("the remainder of %d / %d is %d, with another sign", a, b, remainder)
			}
			if big.NewInt(remainder).CmpAbs(big.NewInt(b)) >= 0 {
				t.Errorf("the remainder of %d / %d is %d, too far from 0", a, b, remainder)
			}
		}
	}
}

// P2.8
func TestJustOneOfLtEqAndGtHolds(t *testing.T) {
	for _, a := range numbers() {
		for _, b := range numbers() {
			count := 0
			for op, opposite := range map[int]int{api.Lt: api.Ge, api.Eq: api.Ne, api.Gt: api.Le} {
				if holds(t, op, a, b) {
					count++
				}
				if holds(t, op, a, b) == holds(t, opposite, a, b) {
					t.Errorf("%d and %d are no opposites for %d and %d", op, opposite, a, b)
				}
			}
			if count != 1 {
				t.Errorf("%d of Lt, Eq and Gt hold for %d and %d", count, a, b)
			}
		}
	}
}

// P2.1 to P2.4: the table of the chapter.
func TestExamplesOfTheChapter(t *testing.T) {
	if n, e := number.Parse("0"); n != 0 || e != api.OK {
		t.Error(n, e)
	}
	if n, e := number.Parse("-9223372036854775808"); n != least || e != api.OK {
		t.Error(n, e)
	}
	for _, s := range []string{"9223372036854775808", "-0", "+1", "01", "", "1 "} {
		if n, e := number.Parse(s); n != 0 || e != api.ErrForm {
			t.Errorf("Parse(%q) = %d, %d", s, n, e)
		}
	}
	for _, x := range []struct {
		op         int
		a, b, want int64
		trap       int
		e          api.Errno
	}{
		{api.Add, greatest, 1, least, 0, api.OK},
		{api.Div, -7, 2, -3, 0, api.OK},
		{api.Mod, -7, 2, -1, 0, api.OK},
		{api.Mod, 7, -2, 1, 0, api.OK},
		{api.Div, least, -1, least, 0, api.OK},
		{api.Mod, least, -1, 0, 0, api.OK},
		{api.Div, 1, 0, 0, api.TrapDiv, api.OK},
		{api.Eq, 1, 1, 0, 0, api.ErrArg},
	} {
		if n, trap, e := number.Do(x.op, x.a, x.b); n != x.want || trap != x.trap || e != x.e {
			t.Errorf("Do(%d, %d, %d) = %d, %d, %d", x.op, x.a, x.b, n, trap, e)
		}
	}
	if yes, e := number.Compare(api.Lt, -1, 0); !yes || e != api.OK {
		t.Error(yes, e)
	}
	if yes, e := number.Compare(api.Ge, 0, 0); !yes || e != api.OK {
		t.Error(yes, e)
	}
	if yes, e := number.Compare(api.Add, 1, 1); yes || e != api.ErrArg {
		t.Error(yes, e)
	}
	if n := number.Negate(least); n != least {
		t.Error(n)
	}
	for s, want := range map[string][]int64{"": nil, "1,-2,3": {1, -2, 3}} {
		if l, e := number.List(s); !slices.Equal(l, want) || e != api.OK {
			t.Errorf("List(%q) = %v, %d", s, l, e)
		}
	}
	for _, s := range []string{"1,", "1, 2"} {
		if l, e := number.List(s); len(l) != 0 || e != api.ErrForm {
			t.Errorf("List(%q) = %v, %d", s, l, e)
		}
	}
}
