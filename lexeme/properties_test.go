package lexeme_test

import (
	"regexp"
	"slices"
	"strings"
	"testing"

	"rewind/api"
	"rewind/lexeme"
)

// source makes numbers that look random, but are always the same.
type source struct{ state uint64 }

// random returns a source of its own for each seed.
func random(seed uint64) *source { return &source{seed*0x9e3779b97f4a7c15 + 1} }

// below returns a number from 0 to n - 1.
func (r *source) below(n int) int {
	r.state ^= r.state << 13
	r.state ^= r.state >> 7
	r.state ^= r.state << 17
	return int(r.state >> 33 % uint64(n))
}

// pick returns one of the strings.
func (r *source) pick(l []string) string { return l[r.below(len(l))] }

// word returns the text of a token.
func (r *source) word() string {
	switch r.below(4) {
	case 0:
		return r.pick(allWords)
	case 1:
		return r.pick(allSigns)
	case 2:
		return r.pick([]string{"0", "1", "7", "10", "4096", largest})
	}
	return r.pick([]string{"x", "y", "a_1", "Len", "iff", "e1", long})
}

// space returns white space, or nothing.
func (r *source) space() string {
	var b strings.Builder
	for range r.below(4) {
		b.WriteString(r.pick([]string{" ", "\t", "\r", "\n"}))
	}
	return b.String()
}

// comment returns a comment without its line feed.
func (r *source) comment() string {
	return "//" + r.pick([]string{"", " a", "/", "x = 1;", "\"\u00e9\xff\x00", "\r", "12a & b"})
}

// text returns a text of n parts, most of which stand in right texts.
func (r *source) text(n int) string {
	var b strings.Builder
	for range n {
		switch r.below(12) {
		case 0:
			b.WriteString(r.space())
		case 1:
			b.WriteString(r.comment() + "\n")
		case 2:
			b.WriteString(r.pick([]string{"01", "$", "&", "_", "\x80", "//", largest + "0", long + long, "1a"}))
		default:
			b.WriteString(r.word())
			b.WriteString(r.pick([]string{"", " ", " ", "\n"}))
		}
	}
	return b.String()
}

// rightTexts returns texts that have tokens.
func rightTexts() []string {
	l := []string{"", " ", "//", "x<=10;", "func f1 // a\na/b", "!=!", largest, "a//b", "/ /", "<=<=\n= ="}
	for r := random(2); len(l) < 3000; {
		text := r.text(r.below(20))
		if _, _, e := lexeme.Scan(text); e == api.OK {
			l = append(l, text)
		}
	}
	return l
}

// scan returns the tokens of a text that has some.
func scan(t *testing.T, text string) []lexeme.Token {
	t.Helper()
	l, at, e := lexeme.Scan(text)
	if at != 0 || e != api.OK {
		t.Fatalf("Scan(%q) = %v, %d, %d", text, l, at, e)
	}
	return l
}

// sameTokens reports whether tokens have the same kinds and texts, at whatever offsets.
func sameTokens(a, b []lexeme.Token) bool {
	return slices.EqualFunc(a, b, func(x, y lexeme.Token) bool { return x.Kind == y.Kind && x.Text == y.Text })
}

// What may stand in front of a token, and behind the last one.
var (
	between = regexp.MustCompile(`^([ \t\r\n]|//[^\n]*\n)*$`)
	behind  = regexp.MustCompile(`^([ \t\r\n]|//[^\n]*\n)*(//[^\n]*)?$`)
)

// P4.3
func TestTokensStandInTheText(t *testing.T) {
	tokens := 0
	for _, text := range rightTexts() {
		end := 0
		for _, k := range scan(t, text) {
			if k.Kind < 1 || k.Kind > 4 || k.Text == "" || k.At < end || k.At+len(k.Text) > len(text) {
				t.Fatalf("%q: %v behind %d", text, k, end)
			}
			if text[k.At:k.At+len(k.Text)] != k.Text || !between.MatchString(text[end:k.At]) {
				t.Fatalf("%q: %v behind %d", text, k, end)
			}
			end = k.At + len(k.Text)
			tokens++
		}
		if !behind.MatchString(text[end:]) {
			t.Fatalf("%q: nothing behind %d", text, end)
		}
	}
	if tokens < 10000 {
		t.Error("too few tokens:", tokens)
	}
}

// P4.4
func TestTextsOfTokensHaveTheSameTokens(t *testing.T) {
	for _, text := range rightTexts() {
		l := scan(t, text)
		var texts []string
		for _, k := range l {
			texts = append(texts, k.Text)
		}
		joined := strings.Join(texts, " ")
		again := scan(t, joined)
		if !sameTokens(l, again) {
			t.Fatalf("%q: %v; %q: %v", text, l, joined, again)
		}
		at := 0
		for _, k := range again {
			if k.At != at {
				t.Fatalf("%q: %v at %d", joined, k, at)
			}
			at += len(k.Text) + 1
		}
	}
}

// P4.5
func TestWhatStandsInFrontOfTokensDoesNotMatter(t *testing.T) {
	r := random(3)
	for _, text := range rightTexts() {
		l := scan(t, text)
		for i, k := range l {
			for _, put := range []string{" ", "\t", "\r", "\n", r.space(), " " + r.comment() + "\n"} {
				more := scan(t, text[:k.At]+put+text[k.At:])
				if !sameTokens(l, more) || more[i].At != k.At+len(put) {
					t.Fatalf("%q with %q at %d: %v; %v", text, put, k.At, l, more)
				}
			}
		}
	}
}
