package lexeme_test

import (
	"fmt"
	"math"
	"math/big"
	"regexp"
	"slices"
	"strings"
	"testing"

	"rewind/api"
	"rewind/lexeme"
)

// The definitions of the chapter once more, as other code writes them: what Scan returns has to be what they say.
var (
	definedPassed = regexp.MustCompile(`^([ \t\r\n]|//[^\n]*)*`)
	definedWord   = regexp.MustCompile(`^[A-Za-z][A-Za-z0-9_]*`)
	definedDigits = regexp.MustCompile(`^[0-9]+`)
	definedBehind = regexp.MustCompile(`^[A-Za-z_]`)
)

// greatest is the greatest number of a program.
var greatest = big.NewInt(math.MaxInt64)

// definedSize returns the kind of the token with which a text begins, and its size; no kind if there is none.
func definedSize(text string) (int, int) {
	if word := definedWord.FindString(text); word != "" {
		return definedKind(word), len(word)
	}
	if digits := definedDigits.FindString(text); digits != "" {
		n, _ := new(big.Int).SetString(digits, 10)
		zero := digits[0] == '0' && digits != "0"
		if zero || n.Cmp(greatest) > 0 || definedBehind.MatchString(text[len(digits):]) {
			return 0, 0
		}
		return lexeme.Number, len(digits)
	}
	for _, s := range allSigns {
		if strings.HasPrefix(text, s) {
			return lexeme.Sign, len(s)
		}
	}
	return 0, 0
}

// definedKind returns the kind of a word; no kind if it is too long.
func definedKind(word string) int {
	if slices.Contains(allWords, word) {
		return lexeme.Keyword
	}
	if len(word) > api.MaxName {
		return 0
	}
	return lexeme.Name
}

// defined returns what Scan has to return.
func defined(text string) ([]lexeme.Token, int, api.Errno) {
	var list []lexeme.Token
	for at := 0; ; {
		at += len(definedPassed.FindString(text[at:]))
		if at == len(text) {
			return list, 0, api.OK
		}
		kind, size := definedSize(text[at:])
		if kind == 0 {
			return nil, at, api.ErrForm
		}
		list = append(list, lexeme.Token{Kind: kind, Text: text[at : at+size], At: at})
		at += size
	}
}

// sameAsDefined reports an error if Scan does not return what it has to.
func sameAsDefined(t *testing.T, text string) {
	t.Helper()
	l, at, e := lexeme.Scan(text)
	want, wantAt, wantE := defined(text)
	if !slices.Equal(l, want) || at != wantAt || e != wantE {
		t.Errorf("Scan(%q) = %v, %d, %d; want %v, %d, %d", text, l, at, e, want, wantAt, wantE)
	}
}

// combined calls look for all texts of n of the parts.
func combined(parts []string, n int, look func(text string)) {
	if n == 0 {
		look("")
		return
	}
	for _, p := range parts {
		combined(parts, n-1, func(text string) { look(p + text) })
	}
}

// bytes256 returns all bytes, each as a text.
func bytes256() []string {
	var l []string
	for c := range 256 {
		l = append(l, string([]byte{byte(c)}))
	}
	return l
}

// P4.1: every byte, on its own, in front of and behind every other one.
func TestScanOfAllPairsOfBytes(t *testing.T) {
	for n := range 3 {
		combined(bytes256(), n, func(text string) { sameAsDefined(t, text) })
	}
}

// P4.1: every byte between tokens, and in a comment.
func TestScanOfAllBytesInBetween(t *testing.T) {
	for _, c := range bytes256() {
		for _, text := range []string{"a" + c + "a", "1" + c + "1", "<" + c + "=", "/" + c + "/", " a " + c, "//" + c + "\na", "//" + c + "b", "a //" + c + c + "\r\n=" + c} {
			sameAsDefined(t, text)
		}
	}
}

// P4.1: all short texts of the bytes between which something changes.
func TestScanOfAllShortTexts(t *testing.T) {
	parts := strings.Split("aZ_019 \n/=<&|!-$\xff", "")
	for n := range 5 {
		combined(parts, n, func(text string) { sameAsDefined(t, text) })
	}
}

// P4.1: the borders of the kinds of bytes.
func TestScanOfTheBordersOfBytes(t *testing.T) {
	parts := strings.Split("@AZ[`az{/09:_\t\r\n\v\f \x00\x1f\x7f\x80", "")
	for n := range 4 {
		combined(parts, n, func(text string) { sameAsDefined(t, text) })
	}
}

// P4.1: words, numbers and signs of all sizes around the limits, one behind the other in all ways.
func TestScanOfRowsOfTokens(t *testing.T) {
	parts := []string{"if", "iff", "len", "a_1", long, long + "x", "0", "00", "12", "12a", "9223372036854775807", "9223372036854775808", "_", "<=", "<", "=", "!", "&&", "&", "/", "//", "\n", " ", "\u00e9"}
	for n := range 4 {
		combined(parts, n, func(text string) { sameAsDefined(t, text) })
	}
}

// P4.1: texts that look random.
func TestScanOfRandomTexts(t *testing.T) {
	r := random(1)
	for range 20000 {
		sameAsDefined(t, r.text(r.below(30)))
	}
}

// R8: equal calls return equal results, in new memory.
func TestScanOnceMore(t *testing.T) {
	for _, text := range []string{"", "x<=10;", "func f1 // a\na/b", "a $"} {
		first := fmt.Sprint(lexeme.Scan(text))
		l, _, _ := lexeme.Scan(text)
		for i := range l {
			l[i] = lexeme.Token{}
		}
		if again := fmt.Sprint(lexeme.Scan(text)); again != first {
			t.Errorf("Scan(%q) = %s, and then %s", text, first, again)
		}
	}
}
