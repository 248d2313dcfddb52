package cursor_test

import (
	"math"
	"slices"
	"testing"

	"rewind/api"
	"rewind/cursor"
	"rewind/lexeme"
)

// tokens are `f ( int`, and a token that package lexeme does not make.
var tokens = []lexeme.Token{{Kind: lexeme.Name, Text: "f"}, {Kind: lexeme.Sign, Text: "("}, {Kind: lexeme.Keyword, Text: "int"}, {Kind: 9, Text: ";"}}

// look reports an error if Read does not return this string, index and error for a part.
func look(t *testing.T, at int, part func(c *cursor.Cursor) string, want string, wantEnd int, wantErr api.Errno) {
	t.Helper()
	got, end, e := cursor.Read(tokens, at, part)
	if got != want || end != wantEnd || e != wantErr {
		t.Errorf("Read = %q, %d, %d; want %q, %d, %d", got, end, e, want, wantEnd, wantErr)
	}
}

// Read returns what was read, and where the cursor stands; it begins at an index from 0 to the number of tokens.
func TestRead(t *testing.T) {
	nothing := func(*cursor.Cursor) string { return "nothing" }
	for at := range 5 {
		look(t, at, nothing, "nothing", at, api.OK)
		look(t, at, func(c *cursor.Cursor) string {
			c.At += 7
			return "much"
		}, "much", at+7, api.OK)
	}
	for _, at := range []int{-1, 5, math.MinInt, math.MaxInt} {
		look(t, at, func(*cursor.Cursor) string {
			t.Error("nothing can be read there")
			return "nothing"
		}, "", 0, api.ErrRange)
	}
	if _, end, e := cursor.Read(nil, 0, nothing); end != 0 || e != api.OK {
		t.Error(end, e)
	}
}

// A mistake ends the reading, and nothing of what was read is returned.
func TestMistakes(t *testing.T) {
	look(t, 1, func(c *cursor.Cursor) string {
		c.At++
		c.Fail(7, api.ErrDeep)
		return "wrong"
	}, "", 7, api.ErrDeep)
	look(t, 1, func(c *cursor.Cursor) string {
		c.Need(true)
		c.At++
		c.Need(false)
		return "wrong"
	}, "", 2, api.ErrForm)
	look(t, 0, func(c *cursor.Cursor) string { return c.Name() + c.Name() }, "", 1, api.ErrForm)
	look(t, 4, func(c *cursor.Cursor) string { return c.Name() }, "", 4, api.ErrForm)
	look(t, 1, func(c *cursor.Cursor) string {
		c.Pass("(")
		c.Pass("(")
		return "wrong"
	}, "", 2, api.ErrForm)
	for at := range 5 {
		look(t, at, func(c *cursor.Cursor) string {
			c.Pass(";")
			return "wrong"
		}, "", at, api.ErrForm)
	}
}

// Tokens are those behind the next one, and have their kinds.
func TestTokens(t *testing.T) {
	for at := range 5 {
		look(t, at, func(c *cursor.Cursor) string {
			for n := range 6 {
				want := lexeme.Token{}
				if at+n < len(tokens) {
					want = tokens[at+n]
				}
				if got := c.Token(n); got != want {
					t.Errorf("the token %d behind the index %d is %v", n, at, got)
				}
			}
			return c.Sign() + "," + c.Keyword() + "," + c.Text(lexeme.Name) + "," + c.Text(9)
		}, []string{",,f,", "(,,,", ",int,,", ",,,;", ",,,"}[at], at, api.OK)
	}
	look(t, 0, func(c *cursor.Cursor) string { return c.Name() }, "f", 1, api.OK)
	look(t, 1, func(c *cursor.Cursor) string {
		c.Pass("(")
		return "passed"
	}, "passed", 2, api.OK)
}

// Take reads with a function that reads tokens itself, from the cursor on, and goes behind what it has read.
func TestTake(t *testing.T) {
	layer := func(l []lexeme.Token, at, depth int) (string, int, api.Errno) {
		if len(l) != len(tokens) || at != 1 || depth != 5 {
			t.Errorf("%v, %d, %d", l, at, depth)
		}
		return "taken", 3, api.OK
	}
	look(t, 1, func(c *cursor.Cursor) string { return cursor.Take(c, layer, 5) }, "taken", 3, api.OK)
	wrong := func([]lexeme.Token, int, int) (string, int, api.Errno) { return "wrong", 2, api.ErrDeep }
	look(t, 1, func(c *cursor.Cursor) string { return cursor.Take(c, wrong, 5) }, "", 2, api.ErrDeep)
}

// There is more up to the last token, of whatever kind this is.
func TestMore(t *testing.T) {
	for at := range 5 {
		look(t, at, func(c *cursor.Cursor) string {
			if c.More() {
				return "more"
			}
			return "none"
		}, []string{"more", "more", "more", "more", "none"}[at], at, api.OK)
	}
}

// List reads parts in parentheses, with commas between them, and goes behind the closing one.
func TestList(t *testing.T) {
	names := func(c *cursor.Cursor) []string { return cursor.List(c, c.Name) }
	for _, x := range []struct {
		text string
		want []string
		end  int
		err  api.Errno
	}{
		{"()", nil, 2, api.OK},
		{"() a", nil, 2, api.OK},
		{"(a)", []string{"a"}, 3, api.OK},
		{"(a, b), c", []string{"a", "b"}, 5, api.OK},
		{"(a, a, b, a))", []string{"a", "a", "b", "a"}, 9, api.OK},
		{"", nil, 0, api.ErrForm},
		{"a", nil, 0, api.ErrForm},
		{")", nil, 0, api.ErrForm},
		{"(", nil, 1, api.ErrForm},
		{"(,", nil, 1, api.ErrForm},
		{"(a", nil, 2, api.ErrForm},
		{"(a b)", nil, 2, api.ErrForm},
		{"(a; b)", nil, 2, api.ErrForm},
		{"(a,", nil, 3, api.ErrForm},
		{"(a,)", nil, 3, api.ErrForm},
		{"(a,,b)", nil, 3, api.ErrForm},
		{"(a, b", nil, 4, api.ErrForm},
		{"(a, b(", nil, 4, api.ErrForm},
	} {
		l, _, _ := lexeme.Scan(x.text)
		if got, end, e := cursor.Read(l, 0, names); !slices.Equal(got, x.want) || end != x.end || e != x.err {
			t.Errorf("%s: %v, %d, %d; want %v, %d, %d", x.text, got, end, e, x.want, x.end, x.err)
		}
	}
}
