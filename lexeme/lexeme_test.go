package lexeme_test

import (
	"slices"
	"strconv"
	"strings"
	"testing"

	"rewind/api"
	"rewind/lexeme"
)

// allWords are the keywords.
var allWords = strings.Fields("func var if else while return print read new len int bool array true false")

// allSigns are the signs in their order.
var allSigns = strings.Fields("|| && == != <= >= ( ) { } [ ] , ; = < > + - * / % !")

// long is a word with as many bytes as a name may have.
const long = "abcdefghijklmnop"

// largest is the greatest number as a string.
const largest = "9223372036854775807"

// Short ways to write tokens:

func name(s string, at int) lexeme.Token    { return lexeme.Token{Kind: 1, Text: s, At: at} }
func number(s string, at int) lexeme.Token  { return lexeme.Token{Kind: 2, Text: s, At: at} }
func keyword(s string, at int) lexeme.Token { return lexeme.Token{Kind: 3, Text: s, At: at} }
func sign(s string, at int) lexeme.Token    { return lexeme.Token{Kind: 4, Text: s, At: at} }
func list(l ...lexeme.Token) []lexeme.Token { return l }

// scanned reports an error if a text does not have these tokens.
func scanned(t *testing.T, text string, want ...lexeme.Token) {
	t.Helper()
	l, at, e := lexeme.Scan(text)
	if !slices.Equal(l, want) || at != 0 || e != api.OK {
		t.Errorf("Scan(%.200q) = %v, %d, %d; want %v", text, l, at, e, want)
	}
}

// rejected reports an error if a text has a token where it has none.
func rejected(t *testing.T, text string, want int) {
	t.Helper()
	l, at, e := lexeme.Scan(text)
	if len(l) != 0 || at != want || e != api.ErrForm {
		t.Errorf("Scan(%.200q) = %v, %d, %d; want ErrForm at %d", text, l, at, e, want)
	}
}

// Types: the kinds have these numbers.
func TestKinds(t *testing.T) {
	if lexeme.Name != 1 || lexeme.Number != 2 || lexeme.Keyword != 3 || lexeme.Sign != 4 {
		t.Error(lexeme.Name, lexeme.Number, lexeme.Keyword, lexeme.Sign)
	}
}

// P4.1: the table of the chapter.
func TestExamplesOfTheChapter(t *testing.T) {
	scanned(t, "x<=10;", name("x", 0), sign("<=", 1), number("10", 3), sign(";", 5))
	scanned(t, "func f1 // a\na/b", keyword("func", 0), name("f1", 5), name("a", 13), sign("/", 14), name("b", 15))
	rejected(t, "12a", 0)
	rejected(t, "01", 0)
	rejected(t, "a 9223372036854775808", 2)
	rejected(t, "a $", 2)
	rejected(t, "a & b", 2)
	rejected(t, long+"q", 0)
	scanned(t, "!=!", sign("!=", 0), sign("!", 2))
	scanned(t, largest, number(largest, 0))
	scanned(t, "")
}

// P4.1: a whole program.
func TestScanOfAProgram(t *testing.T) {
	scanned(t, "func f(n int) bool {\n\t// less\n\treturn n<-1||!b[0];\r\n}\n",
		keyword("func", 0), name("f", 5), sign("(", 6), name("n", 7), keyword("int", 9), sign(")", 12), keyword("bool", 14), sign("{", 19),
		keyword("return", 31), name("n", 38), sign("<", 39), sign("-", 40), number("1", 41), sign("||", 42), sign("!", 44), name("b", 45), sign("[", 46), number("0", 47), sign("]", 48), sign(";", 49),
		sign("}", 52))
}

// P4.1: each keyword is one as a whole word only.
func TestScanOfKeywords(t *testing.T) {
	for _, w := range allWords {
		n := len(w)
		scanned(t, w, keyword(w, 0))
		scanned(t, "\t"+w+"("+w+"//"+w, keyword(w, 1), sign("(", n+1), keyword(w, n+2))
		scanned(t, w[:n-1], name(w[:n-1], 0))
		for _, s := range []string{w + "x", w + "_", w + "0", "x" + w, w + w, strings.ToUpper(w), strings.ToUpper(w[:1]) + w[1:]} {
			scanned(t, s, name(s, 0))
		}
	}
}

// P4.1: each sign, and what becomes of two of them that touch.
func TestScanOfSigns(t *testing.T) {
	for _, s := range allSigns {
		n := len(s)
		scanned(t, s, sign(s, 0))
		scanned(t, "a"+s+"1", name("a", 0), sign(s, 1), number("1", n+1))
		scanned(t, s+" "+s, sign(s, 0), sign(s, n+1))
	}
	for _, s := range strings.Fields("( ) { } [ ] , ; < > + - * % !") {
		scanned(t, s+s, sign(s, 0), sign(s, 1))
	}
	for text, want := range map[string][]lexeme.Token{
		"<==":    list(sign("<=", 0), sign("=", 2)),
		"<<=":    list(sign("<", 0), sign("<=", 1)),
		"=<":     list(sign("=", 0), sign("<", 1)),
		"=>=":    list(sign("=", 0), sign(">=", 1)),
		"===":    list(sign("==", 0), sign("=", 2)),
		"====":   list(sign("==", 0), sign("==", 2)),
		"=!=":    list(sign("=", 0), sign("!=", 1)),
		"!==":    list(sign("!=", 0), sign("=", 2)),
		"!!=":    list(sign("!", 0), sign("!=", 1)),
		"! =":    list(sign("!", 0), sign("=", 2)),
		"< =":    list(sign("<", 0), sign("=", 2)),
		"= =":    list(sign("=", 0), sign("=", 2)),
		">//=\n": list(sign(">", 0)),
		"||||":   list(sign("||", 0), sign("||", 2)),
		"&&&&":   list(sign("&&", 0), sign("&&", 2)),
		"/=":     list(sign("/", 0), sign("=", 1)),
		"/*":     list(sign("/", 0), sign("*", 1)),
	} {
		scanned(t, text, want...)
	}
}

// P4.1: names of 1 to 16 bytes, with every byte that they can have.
func TestScanOfNames(t *testing.T) {
	const letters = "ABCDEFGHIJKLMNOPQRSTUVWXYZabcdefghijklmnopqrstuvwxyz"
	for _, c := range strings.Split(letters, "") {
		scanned(t, c, name(c, 0))
	}
	for _, c := range strings.Split(letters+"0123456789_", "") {
		scanned(t, "x"+c, name("x"+c, 0))
		scanned(t, "x"+c+"x", name("x"+c+"x", 0))
	}
	for n := 1; n <= 40; n++ {
		for _, s := range []string{strings.Repeat("a", n), "a" + strings.Repeat("_", n-1), "Z" + strings.Repeat("9", n-1)} {
			if n <= 16 {
				scanned(t, " "+s+";", name(s, 1), sign(";", n+1))
			} else {
				rejected(t, " "+s+";", 1)
			}
		}
	}
	// A word is as long as possible: it is not cut where a name, or a keyword, could end.
	rejected(t, "print(whilewhilewhilewh);", 6)
	rejected(t, "_a", 0)
	rejected(t, "a _", 2)
}

// P4.1: numbers, and rows of digits that are none.
func TestScanOfNumbers(t *testing.T) {
	for _, s := range []string{"0", "1", "9", "10", "42", "100", "1000000000000000000", "9223372036854775806", largest} {
		scanned(t, s, number(s, 0))
		scanned(t, "-"+s+"-"+s, sign("-", 0), number(s, 1), sign("-", 1+len(s)), number(s, 2+len(s)))
		scanned(t, s+"//a", number(s, 0))
		scanned(t, s+" a", number(s, 0), name("a", 1+len(s)))
		for _, behind := range []string{"a", "z", "A", "Z", "_", "_1", "x1", "e1", "if"} {
			rejected(t, s+behind, 0)
			rejected(t, "("+s+behind+")", 1)
		}
		for _, zeros := range []string{"0", "00"} {
			rejected(t, zeros+s, 0)
			rejected(t, "a "+zeros+s+"+1", 2)
		}
	}
	for _, s := range []string{"9223372036854775808", "9223372036854775810", "9223372036854775899", "9300000000000000000", "18446744073709551615", "18446744073709551616", "10000000000000000000", strings.Repeat("9", 40), strings.Repeat("1", 5000)} {
		rejected(t, s, 0)
		rejected(t, "-"+s, 1)
	}
	scanned(t, "9\na", number("9", 0), name("a", 2))
	rejected(t, "1.5", 1)
	rejected(t, "1\u0663", 1)
}

// P4.1: each kind of white space, alone, between tokens and around them.
func TestScanOfWhiteSpace(t *testing.T) {
	for _, w := range []string{" ", "\t", "\r", "\n", "\r\n", " \t\r\n \t\r\n"} {
		n := len(w)
		scanned(t, w)
		scanned(t, "a"+w+"b", name("a", 0), name("b", n+1))
		scanned(t, w+"1"+w+"2"+w, number("1", n), number("2", 2*n+1))
		scanned(t, "<"+w+"=", sign("<", 0), sign("=", n+1))
		rejected(t, w+"$"+w, n)
	}
	for _, c := range []string{"\v", "\f", "\x00", "\x1c", "\x85", "\u0085", "\u00a0", "\u2028", "\u3000", "\ufeff"} {
		rejected(t, c, 0)
		rejected(t, "a"+c+"b", 1)
		rejected(t, "a "+c, 2)
	}
}

// P4.1: comments, with any bytes, at the end of the text, and ahead of the sign /.
func TestScanOfComments(t *testing.T) {
	for _, c := range []string{"", " ", "a", "/", "//", "$&|", "\x00", "\xff\xfe", "\u00e9", "\r", "\v", "\"", "12a", "*/", long + long} {
		n := len(c)
		scanned(t, "//"+c)
		scanned(t, "//"+c+"\n")
		scanned(t, "a//"+c, name("a", 0))
		scanned(t, "a//"+c+"\nb", name("a", 0), name("b", n+4))
		scanned(t, "//"+c+"\n//"+c+"\nb", name("b", 2*n+6))
		rejected(t, "//"+c+"\n$", n+3)
	}
	scanned(t, "a / / b", name("a", 0), sign("/", 2), sign("/", 4), name("b", 6))
	scanned(t, "a/\n/b", name("a", 0), sign("/", 1), sign("/", 3), name("b", 4))
	scanned(t, "a /// b\n/ c", name("a", 0), sign("/", 8), name("c", 10))
	scanned(t, "a///b", name("a", 0))
	scanned(t, "/ //", sign("/", 0))
	// A carriage return ends no comment.
	scanned(t, "// a\rb\n c", name("c", 8))
}

// P4.1: bytes that begin no token.
func TestScanOfBytesThatBeginNoToken(t *testing.T) {
	begins := " \t\r\n()[]{},;=<>+-*/%!"
	for c := range 256 {
		s := string([]byte{byte(c)})
		alnum := '0' <= c && c <= '9' || 'A' <= c && c <= 'Z' || 'a' <= c && c <= 'z'
		if alnum || strings.IndexByte(begins, byte(c)) >= 0 {
			if l, at, e := lexeme.Scan(s); at != 0 || e != api.OK {
				t.Errorf("Scan(%q) = %v, %d, %d", s, l, at, e)
			}
			continue
		}
		rejected(t, s, 0)
		rejected(t, "x; "+s, 3)
		rejected(t, "x//\n;"+s+"//", 5)
		// The first one decides.
		rejected(t, "( "+s+" 01", 2)
		rejected(t, "( 01 "+s, 2)
	}
	for _, s := range []string{"&", "|"} {
		rejected(t, s, 0)
		rejected(t, "a"+s+"b", 1)
		rejected(t, "a"+s+s+s+"b", 3)
		rejected(t, s+" "+s, 0)
	}
	rejected(t, "&|", 0)
	rejected(t, "|&&", 0)
}

// P1: long texts end, too.
func TestScanOfLongTexts(t *testing.T) {
	const n = 200000
	scanned(t, strings.Repeat(" \n", n)+"a", name("a", 2*n))
	scanned(t, strings.Repeat("//\n", n)+"a", name("a", 3*n))
	scanned(t, "//"+strings.Repeat("/", n)+"\na", name("a", n+3))
	rejected(t, strings.Repeat("a", n), 0)
	rejected(t, strings.Repeat("7", n), 0)
	rejected(t, strings.Repeat("_", n), 0)
	l, at, e := lexeme.Scan(strings.Repeat("a+", n))
	if len(l) != 2*n || at != 0 || e != api.OK {
		t.Fatal(len(l), at, e)
	}
	for i := range n {
		if l[2*i] != name("a", 2*i) || l[2*i+1] != sign("+", 2*i+1) {
			t.Fatal(i, l[2*i], l[2*i+1])
		}
	}
	rejected(t, strings.Repeat("a+", n)+"&", 2*n)
}

// P4.2
func TestReserved(t *testing.T) {
	for _, w := range allWords {
		if !lexeme.Reserved(w) {
			t.Error(w)
		}
		for _, s := range []string{w + " ", " " + w, w + "x", "x" + w, w[1:], w[:len(w)-1], strings.ToUpper(w), w + "\x00", w + w} {
			if lexeme.Reserved(s) {
				t.Errorf("Reserved(%q)", s)
			}
		}
	}
	for _, s := range append([]string{"", " ", "x", "0", "1", "main", "for", "nil", "string", "func var", "l\u00e9n", "\xff"}, allSigns...) {
		if lexeme.Reserved(s) {
			t.Errorf("Reserved(%q)", s)
		}
	}
}

// P4.2
func TestSigns(t *testing.T) {
	if l := lexeme.Signs(); !slices.Equal(l, allSigns) {
		t.Error(l)
	}
	// R4: each result is new memory, and not the table that Scan reads.
	l := lexeme.Signs()
	for i := range l {
		l[i] = strconv.Itoa(i)
	}
	l = append(l, "$")
	if again := lexeme.Signs(); !slices.Equal(again, allSigns) {
		t.Error(again)
	}
	scanned(t, "<=(!", sign("<=", 0), sign("(", 2), sign("!", 3))
	rejected(t, l[len(l)-1], 0)
}
