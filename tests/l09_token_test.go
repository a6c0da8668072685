package tests

import (
	"fmt"
	"go/ast"
	"go/token"
	"math"
	"regexp"
	"slices"
	"strings"
	"testing"
	"unsafe"

	"loop.example/g00329/impl"
)

// keptTexts and markTexts are written out as the document tells them, apart from what the program has.
var keptTexts = strings.Fields("mov cmp bic bis add sub clr inc dec neg tst asr asl jmp jsr rts br bne beq bge blt halt emt r0 r1 r2 r3 r4 r5 sp pc")

var markTexts = strings.Fields(": = , ( ) + - * / & | # @ . < >")

func nameToken(s string) impl.Token { return impl.Token{K: impl.KName, S: s} }

func numToken(n int) impl.Token { return impl.Token{K: impl.KNum, N: n} }

func dotToken(s string) impl.Token { return impl.Token{K: impl.KDot, S: s} }

func markToken(s string) impl.Token { return impl.Token{K: impl.KMark, S: s} }

func keptToken(s string) impl.Token { return impl.Token{K: impl.KKept, S: s} }

func checkLex(t *testing.T, s string, want ...impl.Token) {
	t.Helper()
	if l, ok := impl.Lex(s); !ok || !slices.Equal(l, want) {
		t.Errorf("Lex of %.40q: %d tokens, %v, %v, want %d, %v", s, len(l), l[:min(len(l), 20)], ok, len(want), want[:min(len(want), 20)])
	}
}

func checkNoLex(t *testing.T, s string) {
	t.Helper()
	if l, ok := impl.Lex(s); ok || len(l) != 0 {
		t.Errorf("Lex of %.40q: %d tokens, %v, %v", s, len(l), l[:min(len(l), 20)], ok)
	}
}

// checkNoLexWherever wants that s is refused behind and ahead of what is right, too.
func checkNoLexWherever(t *testing.T, s string) {
	t.Helper()
	for _, line := range []string{s, " " + s, "\t" + s, s + " ", s + " a", "a " + s, "1 " + s, ":" + s, s + ":", s + ";", s + " ; a", "mov (r0)+ , " + s} {
		checkNoLex(t, line)
	}
}

func checkTokenOk(t *testing.T, z impl.Token, want bool) {
	t.Helper()
	if got := impl.TokenOk(z); got != want {
		t.Errorf("TokenOk of %+v: %v", z, got)
	}
}

func checkLineOf(t *testing.T, want string, l ...impl.Token) {
	t.Helper()
	if got := impl.LineOf(l); got != want {
		t.Errorf("LineOf of %v: %q, want %q", l, got, want)
	}
}

func TestTokenConstants(t *testing.T) {
	if impl.KName != 1 || impl.KNum != 2 || impl.KDot != 3 || impl.KMark != 4 || impl.KKept != 5 {
		t.Error("kinds")
	}
	if len(keptTexts) != 31 || len(markTexts) != 16 {
		t.Error("this test has not all kept words and marks", len(keptTexts), len(markTexts))
	}
}

func TestLinesOfNoTokens(t *testing.T) {
	for _, s := range []string{"", " ", "\t", "  \t \t\t ", ";", ";;", " ;", "\t;", "; mov", ";A", ";\x00\xff\n\r8 00 sevenle", "; \xe4", strings.Repeat(" ", 5000), ";" + strings.Repeat("a,", 5000)} {
		checkLex(t, s)
	}
}

func TestLexPassesOverAllFromASemicolonOn(t *testing.T) {
	a, b, one := nameToken("a"), nameToken("b"), numToken(1)
	for _, rest := range []string{";", "; b", ";b", ";;b", ";\x01", ";\n", ";B", "; 8", ";00", "; sevenle", "; .", ";\nb", "; a:;\xff", ";" + strings.Repeat(" x", 900)} {
		checkLex(t, "a"+rest, a)
		checkLex(t, "a "+rest, a)
		checkLex(t, "a 1"+rest, a, one)
		checkLex(t, ":"+rest, markToken(":"))
		checkLex(t, "mov"+rest, keptToken("mov"))
		checkLex(t, ".word"+rest, dotToken(".word"))
		checkLex(t, "."+rest, markToken("."))
	}
	checkLex(t, "a b;", a, b)
	checkNoLex(t, "A;")
	checkNoLex(t, "8 ; a")
	checkNoLex(t, "a\n;")
}

func TestLexPassesOverBlanks(t *testing.T) {
	a, one, comma := nameToken("a"), numToken(1), markToken(",")
	for _, z := range []string{" ", "\t", "  ", " \t", "\t ", "\t\t \t"} {
		checkLex(t, z+"a", a)
		checkLex(t, "a"+z, a)
		checkLex(t, z+"a"+z+","+z+"1"+z, a, comma, one)
		checkLex(t, "a"+z+"a", a, a)
		checkLex(t, "1"+z+"1", one, one)
		checkLex(t, "."+z+"a", markToken("."), a)
		checkLex(t, "mo"+z+"v", nameToken("mo"), nameToken("v"))
	}
}

// tokenTexts are texts of one token each.
func tokenTexts() map[string]impl.Token {
	l := map[string]impl.Token{}
	for _, s := range keptTexts {
		l[s] = keptToken(s)
	}
	for _, s := range markTexts {
		l[s] = markToken(s)
	}
	for _, s := range []string{"a", "z", "ab", "a1", "z9", "a0", "a00", "a8", "r6", "r7", "r9", "r", "r00", "word", "x12345", "sixlet", "zzzzzz", "a99999", "main", "over", "macro"} {
		l[s] = nameToken(s)
	}
	for _, s := range []string{".a", ".z", ".a1", ".z9", ".word", ".blkw", ".sect", ".globl", ".end", ".macro", ".endm", ".rept", ".endr", ".sixlet", ".a00000", ".mov", ".r0", ".halt", ".pc"} {
		l[s] = dotToken(s)
	}
	for s, n := range map[string]int{"0": 0, "1": 1, "7": 7, "10": 8, "12": 10, "17": 15, "20": 16, "77": 63, "100": 64, "1000": 512, "77777": 32767, "100000": 32768, "100001": 32769, "177776": 65534, "177777": 65535} {
		l[s] = numToken(n)
	}
	return l
}

func TestEachTokenAlone(t *testing.T) {
	for s, z := range tokenTexts() {
		for _, line := range []string{s, " " + s, s + " ", "\t" + s + "\t", s + ";", " " + s + " ; " + s} {
			checkLex(t, line, z)
		}
		checkTokenOk(t, z, true)
		checkLineOf(t, s, z)
	}
}

// meet tells whether two texts right behind each other are others than the two tokens: letters or digits would go on.
func meet(one, other string) bool {
	first := other[0]
	letter := first >= 'a' && first <= 'z'
	digit := first >= '0' && first <= '9'
	last := one[0]
	if last >= '0' && last <= '9' {
		return digit
	}
	if one == "." {
		return letter
	}
	if last >= 'a' && last <= 'z' || last == '.' {
		return letter || digit
	}
	return false
}

func TestTwoTokensRightBehindEachOther(t *testing.T) {
	all := tokenTexts()
	for one, a := range all {
		for other, b := range all {
			checkLex(t, one+" "+other, a, b)
			if !meet(one, other) {
				checkLex(t, one+other, a, b)
			}
		}
	}
}

func TestLettersAndDigitsGoOn(t *testing.T) {
	checkLex(t, "mova", nameToken("mova"))
	checkLex(t, "mov1", nameToken("mov1"))
	checkLex(t, "r01", nameToken("r01"))
	checkLex(t, "a12", nameToken("a12"))
	checkLex(t, "a12b3c", nameToken("a12b3c"))
	checkLex(t, ".a12b3c", dotToken(".a12b3c"))
	checkLex(t, ".worda", dotToken(".worda"))
	checkLex(t, "a.b", nameToken("a"), dotToken(".b"))
	checkLex(t, "a.", nameToken("a"), markToken("."))
	checkLex(t, ".a.b", dotToken(".a"), dotToken(".b"))
	checkLex(t, "..a", markToken("."), dotToken(".a"))
	checkLex(t, "sixlet.sixlet", nameToken("sixlet"), dotToken(".sixlet"))
	checkLex(t, "mov.mov", keptToken("mov"), dotToken(".mov"))
}

// A number's digits end where letters begin, which are a token of their own then.
func TestLettersRightBehindDigits(t *testing.T) {
	checkLex(t, "1a", numToken(1), nameToken("a"))
	checkLex(t, "0a", numToken(0), nameToken("a"))
	checkLex(t, "12ab3", numToken(10), nameToken("ab3"))
	checkLex(t, "177777sixlet", numToken(65535), nameToken("sixlet"))
	checkLex(t, "1mov", numToken(1), keptToken("mov"))
	checkLex(t, "0r0", numToken(0), keptToken("r0"))
	checkLex(t, "0x1", numToken(0), nameToken("x1"))
	checkLex(t, "0b1", numToken(0), nameToken("b1"))
	checkLex(t, "0o17", numToken(0), nameToken("o17"))
	checkLex(t, "1e5", numToken(1), nameToken("e5"))
	checkLex(t, "1.a", numToken(1), dotToken(".a"))
	checkLex(t, "1.2", numToken(1), markToken("."), numToken(2))
	for _, s := range []string{"8a", "9a", "00a", "01a", "200000a", "1sevenle", "1A", "1_000", "0_7", "0X1"} {
		checkNoLexWherever(t, s)
	}
}

func TestKeptWords(t *testing.T) {
	kept := map[string]bool{}
	for _, s := range keptTexts {
		kept[s] = true
	}
	for _, s := range keptTexts {
		checkLex(t, s, keptToken(s))
		checkTokenOk(t, nameToken(s), false)
		checkTokenOk(t, keptToken(s), true)
		checkLex(t, "."+s, dotToken("."+s))
		near := []string{s + "a", s + "z", s + "0", s + "9", "a" + s, s[:len(s)-1], s + s[:1], s[:1] + s}
		if s[1] > '9' {
			near = append(near, s[1:])
		}
		for _, x := range near {
			if kept[x] {
				continue
			}
			checkLex(t, x, nameToken(x))
			checkTokenOk(t, nameToken(x), true)
			checkTokenOk(t, keptToken(x), false)
		}
		checkNoLexWherever(t, strings.ToUpper(s))
		checkNoLexWherever(t, strings.ToUpper(s[:1])+s[1:])
	}
	// Ops that the machine does not have, and what other chapters write, are names.
	for _, s := range []string{"r6", "r7", "r8", "sp0", "pc0", "ps", "nop", "bgt", "ble", "bit", "com", "mul", "over", "word", "end", "error", "main", "code"} {
		checkLex(t, s, nameToken(s))
	}
}

func TestEveryTextOfTwoLettersAndDigits(t *testing.T) {
	const all = "abcdefghijklmnopqrstuvwxyz0123456789"
	for _, a := range all[:26] {
		for _, b := range all {
			s := string(a) + string(b)
			want := nameToken(s)
			if slices.Contains(keptTexts, s) {
				want = keptToken(s)
			}
			checkLex(t, s, want)
			checkTokenOk(t, want, true)
		}
	}
}

func TestSixLettersAndDigitsAndSeven(t *testing.T) {
	for _, s := range []string{"abcdef", "a12345", "a00000", "zzzzzz", "z99999", "movmov", "r00000", "haltha", "abc123", "a1b2c3"} {
		checkLex(t, s, nameToken(s))
		checkLex(t, "."+s, dotToken("."+s))
		checkLex(t, ":"+s+":", markToken(":"), nameToken(s), markToken(":"))
		for _, more := range []string{"a", "z", "0", "9", "sp", "aaaaaa", strings.Repeat("b", 1000)} {
			checkNoLexWherever(t, s+more)
			checkNoLexWherever(t, "."+s+more)
			checkNoLexWherever(t, ".."+s+more)
		}
		// Seven of them are six where a dot, a blank or a mark parts them.
		checkLex(t, s+" a", nameToken(s), nameToken("a"))
		checkLex(t, s+".a", nameToken(s), dotToken(".a"))
		checkLex(t, s+"/a", nameToken(s), markToken("/"), nameToken("a"))
	}
}

func TestDots(t *testing.T) {
	dot := markToken(".")
	checkLex(t, ".", dot)
	checkLex(t, " . ", dot)
	checkLex(t, "..", dot, dot)
	checkLex(t, "...", dot, dot, dot)
	checkLex(t, ". word", dot, nameToken("word"))
	checkLex(t, ".0", dot, numToken(0))
	checkLex(t, ".1a", dot, numToken(1), nameToken("a"))
	checkLex(t, ".177777", dot, numToken(65535))
	for _, z := range markTexts {
		checkLex(t, "."+z, dot, markToken(z))
		checkLex(t, z+".", markToken(z), dot)
		checkLex(t, z+".a", markToken(z), dotToken(".a"))
		checkLex(t, ".a"+z, dotToken(".a"), markToken(z))
	}
	for _, s := range []string{".8", ".00", ".01", ".200000", ".A", ".Word", ".wordA", ".\n", ".\x00", "._a", ".$", ".\xff", ".sevenle", ".a\u00e4"} {
		checkNoLexWherever(t, s)
	}
}

func TestNoughtsAheadOfANumber(t *testing.T) {
	checkLex(t, "0", numToken(0))
	checkLex(t, "0 0", numToken(0), numToken(0))
	checkLex(t, "-0", markToken("-"), numToken(0))
	checkLex(t, "a0", nameToken("a0"))
	checkLex(t, "a00", nameToken("a00"))
	checkLex(t, "10", numToken(8))
	checkLex(t, "100", numToken(64))
	for _, s := range []string{"00", "000", "01", "07", "001", "010", "0177777", "00000", "000000", "0000000", "0000001", "00177777", "08", strings.Repeat("0", 1000), strings.Repeat("0", 1000) + "1"} {
		checkNoLexWherever(t, s)
		checkNoLexWherever(t, "#"+s)
		checkNoLexWherever(t, "-"+s)
	}
}

func TestDigitsThatAreNoWord(t *testing.T) {
	checkLex(t, "177777", numToken(65535))
	for _, s := range []string{
		"8", "9", "18", "19", "81", "98", "88", "78", "80", "108", "1778", "177778", "177779", "187777", "200000", "200001", "277777", "777777", "1000000", "1777777",
		"12345670", "2000000000000000000000", "1777777777777777777777", "18446744073709551616", strings.Repeat("1", 1000), strings.Repeat("7", 100000),
	} {
		checkNoLexWherever(t, s)
		checkNoLexWherever(t, "#"+s)
	}
}

func TestEveryWordIsANumber(t *testing.T) {
	for n := range 65536 {
		s := fmt.Sprintf("%o", n)
		checkLex(t, s, numToken(n))
		checkLineOf(t, s, numToken(n))
		checkTokenOk(t, numToken(n), true)
	}
	for n := 65536; n < 70000; n++ {
		checkNoLex(t, fmt.Sprintf("%o", n))
	}
}

// wantByte is what a byte alone is in a line.
func wantByte(c byte) ([]impl.Token, bool) {
	s := string([]byte{c})
	switch {
	case c == ' ' || c == '\t' || c == ';':
		return nil, true
	case c >= 'a' && c <= 'z':
		return []impl.Token{nameToken(s)}, true
	case c >= '0' && c <= '7':
		return []impl.Token{numToken(int(c - '0'))}, true
	case slices.Contains(markTexts, s):
		return []impl.Token{markToken(s)}, true
	}
	return nil, false
}

func TestEveryByte(t *testing.T) {
	refused := 0
	for i := range 256 {
		s := string([]byte{byte(i)})
		want, ok := wantByte(byte(i))
		if ok {
			checkLex(t, s, want...)
			checkLex(t, " "+s, want...)
			continue
		}
		refused++
		checkNoLexWherever(t, s)
		if s == "8" || s == "9" {
			continue
		}
		for _, line := range []string{"a" + s, "a" + s + "b", "1" + s, "1" + s + "1", "mov" + s, "." + s, ".a" + s, "sixlet" + s, s + s, s + "a"} {
			checkNoLex(t, line)
		}
	}
	if refused != 256-3-26-8-16 {
		t.Error("refused:", refused)
	}
}

func TestWhatIsNoTokenAtAll(t *testing.T) {
	for _, s := range []string{
		"A", "Z", "aB", "Mov", "MOV", "R0", "a\nb", "\n", "\r", "a\r", "a\r\n", "\x00", "\x01", "\v", "\f", "\x1f", "\x7f", "\x80", "\xa0", "\xff", "$", "_", "!", "\"", "'", "%", "?", "[", "]", "\\", "^", "`", "{", "}", "~",
		"\u00e4", "a\u00e4", "\u00a0", "\u2028", "\uff11", "\ufffd", "\xe2\x82", "\U0001f600", "\u0131", "\u017f",
	} {
		checkNoLexWherever(t, s)
	}
}

func TestUpTo800Tokens(t *testing.T) {
	for s, z := range tokenTexts() {
		for _, n := range []int{2, 3, 799, 800} {
			for _, line := range []string{strings.Repeat(s+" ", n), strings.Repeat("\t "+s, n), strings.Repeat(s+" ", n) + ";" + s + " " + s} {
				checkLex(t, line, slices.Repeat([]impl.Token{z}, n)...)
			}
		}
		for _, n := range []int{801, 802, 1000, 1601} {
			checkNoLex(t, strings.Repeat(s+" ", n))
		}
		full := strings.Repeat(s+" ", 800)
		checkNoLex(t, full+"a")
		checkNoLex(t, full+":")
		checkNoLex(t, full+".")
		checkNoLex(t, full+"0")
		checkNoLex(t, full+"A")
	}
	// How many tokens there are counts, not how many bytes.
	checkLex(t, strings.Repeat("1:", 400), slices.Repeat([]impl.Token{numToken(1), markToken(":")}, 400)...)
	checkNoLex(t, strings.Repeat("1:", 400)+".")
	checkLex(t, strings.Repeat(",", 800), slices.Repeat([]impl.Token{markToken(",")}, 800)...)
	checkNoLex(t, strings.Repeat(",", 801))
	checkLex(t, strings.Repeat(",", 800)+strings.Repeat(" ", 10000), slices.Repeat([]impl.Token{markToken(",")}, 800)...)
	checkLex(t, strings.Repeat("sixlet ", 800), slices.Repeat([]impl.Token{nameToken("sixlet")}, 800)...)
}

var tokenForms = regexp.MustCompile(`(?s)^(?:([ \t]+|;.*)|([a-z][a-z0-9]*)|([0-9]+)|(\.[a-z][a-z0-9]*)|([:=,()+\-*/&|#@.<>]))`)

// wantLex goes by tokenForms, of which one after the other is cut from the front of s.
func wantLex(s string) ([]impl.Token, bool) {
	var l []impl.Token
	for s != "" {
		m := tokenForms.FindStringSubmatch(s)
		if m == nil {
			return nil, false
		}
		s = s[len(m[0]):]
		switch {
		case m[2] != "" && len(m[2]) <= 6 && slices.Contains(keptTexts, m[2]):
			l = append(l, keptToken(m[2]))
		case m[2] != "" && len(m[2]) <= 6:
			l = append(l, nameToken(m[2]))
		case m[3] != "":
			n, ok := impl.ParseOct(m[3])
			if !ok {
				return nil, false
			}
			l = append(l, numToken(n))
		case m[4] != "" && len(m[4]) <= 7:
			l = append(l, dotToken(m[4]))
		case m[5] != "":
			l = append(l, markToken(m[5]))
		case m[1] == "":
			return nil, false
		}
	}
	return l, len(l) <= 800
}

func checkAgainstForms(t *testing.T, s string) bool {
	t.Helper()
	want, ok := wantLex(s)
	if !ok {
		checkNoLex(t, s)
		return false
	}
	checkLex(t, s, want...)
	return true
}

func TestEveryShortLine(t *testing.T) {
	const bytes = " sp09.,;B\n"
	lines := []string{""}
	read := 0
	for range 5 {
		var longer []string
		for _, s := range lines {
			for i := range len(bytes) {
				longer = append(longer, s+bytes[i:i+1])
			}
		}
		lines = longer
		for _, s := range lines {
			if checkAgainstForms(t, s) {
				read++
			}
		}
	}
	if read < 10000 {
		t.Error("read:", read)
	}
}

// nextOf makes the same numbers, each below what it is asked for, at each run.
func nextOf(seed uint32) func(n int) int {
	return func(n int) int {
		seed = seed*1664525 + 1013904223
		return int(seed>>8) % n
	}
}

func TestManyLines(t *testing.T) {
	next := nextOf(9)
	parts := []string{" ", "\t", " ", ";", ".", "8", "00", "0", "7", "200000", "seven", "le", "B"}
	for s := range tokenTexts() {
		parts = append(parts, s)
	}
	// The order of a map is another at each run.
	slices.Sort(parts)
	read := 0
	for range 20000 {
		var b strings.Builder
		for range next(12) {
			b.WriteString(parts[next(len(parts))])
			if next(3) > 0 {
				b.WriteByte(' ')
			}
		}
		if checkAgainstForms(t, b.String()) {
			read++
		}
	}
	if read < 3000 || read > 17000 {
		t.Error("of one kind alone:", read)
	}
}

func TestTokensOfNoKind(t *testing.T) {
	checkTokenOk(t, impl.Token{}, false)
	for _, k := range []int{0, -1, -2, -5, 6, 7, 256 + 1, 65536 + 2, 1<<32 + 1, 1<<32 + 2, math.MinInt, math.MaxInt} {
		for _, z := range tokenTexts() {
			z.K = k
			checkTokenOk(t, z, false)
		}
		checkTokenOk(t, impl.Token{K: k}, false)
	}
}

// Each text of tokenTexts is right of one kind alone.
func TestTokensOfAnotherKind(t *testing.T) {
	for s, right := range tokenTexts() {
		for k := 1; k <= 5; k++ {
			z := impl.Token{K: k, S: s}
			checkTokenOk(t, z, z == right)
		}
		// A number's digits are not its S.
		if right.K == impl.KNum {
			right.S = s
			checkTokenOk(t, right, false)
		}
	}
}

func TestTokensWithFieldsThatTheirKindDoesNotName(t *testing.T) {
	for _, z := range tokenTexts() {
		if z.K == impl.KNum {
			for _, s := range []string{"0", " ", "a", "mov", ":", ".word", "\x00"} {
				checkTokenOk(t, impl.Token{K: z.K, N: z.N, S: s}, false)
			}
			continue
		}
		for _, n := range []int{1, -1, 8, 65535, 65536, 1 << 32, math.MinInt, math.MaxInt} {
			checkTokenOk(t, impl.Token{K: z.K, N: n, S: z.S}, false)
		}
	}
}

func TestNumbersThatAreNoWord(t *testing.T) {
	for _, n := range noWords {
		checkTokenOk(t, numToken(n), false)
	}
	for _, n := range []int{0, 1, 7, 8, 9, 32767, 32768, 65534, 65535} {
		checkTokenOk(t, numToken(n), true)
	}
}

func TestTokensWithTextsThatAreNotRight(t *testing.T) {
	noNames := []string{
		"", " ", "sevenle", "a234567", "A", "aB", "Abc", "1", "1a", "0", "8", "a b", " a", "a ", "a\n", "\na", "a.", ".a", "a:", "a_b", "_a", "$a", "a$", "a\x00", "\x00", "\xff", "\u00e4", "a\u00e4", "\u0131", ";", "a;",
		strings.Repeat("a", 1000),
	}
	for _, s := range noNames {
		checkTokenOk(t, nameToken(s), false)
		checkTokenOk(t, keptToken(s), false)
		checkTokenOk(t, dotToken("."+s), false)
		checkTokenOk(t, dotToken(s), s == ".a")
	}
	for _, s := range []string{"", ".", "..", "..a", "a", "word", "mov", "a.b", ".a.b", " .a", ".a ", ". a", ".1", ".0a", ".sevenle", ".A", ".aB", ".a\n", ":a", ",a"} {
		checkTokenOk(t, dotToken(s), false)
	}
	for _, s := range []string{"", ";", " ", "\t", "\n", "a", "0", "::", ":=", ",,", "()", "..", "+-", ": ", " :", ":\x00", "!", "$", "_", "%", "[", "]", "{", "}", "\"", "'", "\\", "^", "~", "?", "\x00", "\xff", "\u00e4", strings.Join(markTexts, "")} {
		checkTokenOk(t, markToken(s), false)
	}
	for _, s := range []string{"MOV", "Mov", "mo", "move", " mov", "mov ", "movcmp", "mov cmp", "r6", "r7", "r", "r00", "r-1", "sp ", "p", "c", "spc", "pcs", "\x00", ".mov", "a"} {
		checkTokenOk(t, keptToken(s), false)
	}
	for i := range 256 {
		s := string([]byte{byte(i)})
		checkTokenOk(t, markToken(s), slices.Contains(markTexts, s))
		checkTokenOk(t, nameToken(s), i >= 'a' && i <= 'z')
		checkTokenOk(t, nameToken("a"+s), i >= 'a' && i <= 'z' || i >= '0' && i <= '9')
		checkTokenOk(t, dotToken("."+s), i >= 'a' && i <= 'z')
		checkTokenOk(t, dotToken(".a"+s), i >= 'a' && i <= 'z' || i >= '0' && i <= '9')
		checkTokenOk(t, keptToken(s), false)
	}
}

func TestLineOfWrittenOut(t *testing.T) {
	checkLineOf(t, "")
	checkLineOf(t, "", []impl.Token{}...)
	checkLineOf(t, "a", nameToken("a"))
	checkLineOf(t, "0", numToken(0))
	checkLineOf(t, "a a", nameToken("a"), nameToken("a"))
	checkLineOf(t, "1 2", numToken(1), numToken(2))
	checkLineOf(t, ". a", markToken("."), nameToken("a"))
	checkLineOf(t, "- 177777", markToken("-"), numToken(65535))
	checkLineOf(t, "a1 : mov # 12 , @ - ( sp )", nameToken("a1"), markToken(":"), keptToken("mov"), markToken("#"), numToken(10), markToken(","), markToken("@"), markToken("-"), markToken("("), keptToken("sp"), markToken(")"))
	checkLineOf(t, ".word 10 , < a + . >", dotToken(".word"), numToken(8), markToken(","), markToken("<"), nameToken("a"), markToken("+"), markToken("."), markToken(">"))
	checkLineOf(t, strings.Repeat("a ", 800)+"a", slices.Repeat([]impl.Token{nameToken("a")}, 801)...)
}

// The document names no other answer for a token that is not right: it has its S, a number its word Wrapped.
func TestLineOfTokensThatAreNotRight(t *testing.T) {
	checkLineOf(t, "", impl.Token{})
	checkLineOf(t, " ", impl.Token{}, impl.Token{})
	checkLineOf(t, "a  b", nameToken("a"), impl.Token{}, nameToken("b"))
	checkLineOf(t, "", nameToken(""))
	checkLineOf(t, "mov", nameToken("mov"))
	checkLineOf(t, "a", keptToken("a"))
	checkLineOf(t, "A;\n", markToken("A;\n"))
	checkLineOf(t, "x", impl.Token{K: 99, N: 8, S: "x"})
	checkLineOf(t, "x", impl.Token{K: impl.KName, N: 8, S: "x"})
	checkLineOf(t, "10", impl.Token{K: impl.KNum, N: 8, S: "x"})
	checkLineOf(t, "177777", numToken(-1))
	checkLineOf(t, "0", numToken(65536))
	checkLineOf(t, "1", numToken(65537))
	checkLineOf(t, "177777 0", numToken(math.MaxInt), numToken(math.MinInt))
}

func checkComesBack(t *testing.T, l []impl.Token) {
	t.Helper()
	s := impl.LineOf(l)
	checkLex(t, s, l...)
	checkLex(t, "\t"+s+" ; "+s, l...)
	for _, z := range l {
		checkTokenOk(t, z, true)
	}
}

func TestTokensComeBackOfTheirLine(t *testing.T) {
	checkComesBack(t, nil)
	var all []impl.Token
	for _, z := range tokenTexts() {
		all = append(all, z)
	}
	slices.SortFunc(all, func(a, b impl.Token) int {
		return strings.Compare(impl.LineOf([]impl.Token{a}), impl.LineOf([]impl.Token{b}))
	})
	checkComesBack(t, all)
	for _, a := range all {
		for _, b := range all {
			checkComesBack(t, []impl.Token{a, b})
		}
		checkComesBack(t, slices.Repeat([]impl.Token{a}, 800))
	}
	next := nextOf(19)
	for round := range 3000 {
		n := next(30)
		if round%100 == 0 {
			n = 790 + next(11)
		}
		var l []impl.Token
		for range n {
			l = append(l, anyToken(next, all))
		}
		checkComesBack(t, l)
	}
	// One more than a line may have does not come back.
	checkNoLex(t, impl.LineOf(slices.Repeat(all[:1], 801)))
}

// anyToken is one of all, or one with letters, digits or a word of its own.
func anyToken(next func(n int) int, all []impl.Token) impl.Token {
	const letters = "abcdefghijklmnopqrstuvwxyz0123456789"
	if next(3) == 0 {
		return all[next(len(all))]
	}
	if next(3) == 0 {
		return numToken(next(65536))
	}
	b := []byte{letters[next(26)]}
	for range next(6) {
		b = append(b, letters[next(36)])
	}
	s := string(b)
	switch {
	case next(2) == 0:
		return dotToken("." + s)
	case slices.Contains(keptTexts, s):
		return keptToken(s)
	}
	return nameToken(s)
}

// What is read, written and read again is the same, however the line was written first.
func TestLinesReadTwice(t *testing.T) {
	for _, s := range []string{"", " a1:mov #12 , @-(sp) ; no", ".word . r6", "1a2b", "..a.b", "a=<b+c>", "\tjsr pc,@#100", "x:.blkw <.+2>", "(r0)+,-(r1)", "a&b|c*d/e@f"} {
		l, ok := impl.Lex(s)
		if !ok {
			t.Errorf("Lex of %q: %v", s, ok)
		}
		checkComesBack(t, l)
	}
}

func shareText(a, b string) bool {
	if a == "" || b == "" {
		return false
	}
	from, to := uintptr(unsafe.Pointer(unsafe.StringData(a))), uintptr(unsafe.Pointer(unsafe.StringData(b)))
	return from < to+uintptr(len(b)) && to < from+uintptr(len(a))
}

func TestLexIsNewMemory(t *testing.T) {
	s := strings.Repeat("sixlet:.sixlt mov 12 ", 3)
	one, _ := impl.Lex(s)
	two, _ := impl.Lex(s)
	want := slices.Clone(two)
	for _, z := range one {
		if shareText(z.S, s) {
			t.Errorf("%q shares the line's memory", z.S)
		}
	}
	one = one[:cap(one)]
	for i := range one {
		one[i] = impl.Token{K: 9, N: 9, S: "9"}
	}
	if three, _ := impl.Lex(s); !slices.Equal(two, want) || !slices.Equal(three, want) {
		t.Errorf("answers share memory: %v, %v", two, three)
	}
}

func TestTellingTokensWritesNothing(t *testing.T) {
	room := []impl.Token{nameToken("abc"), numToken(8), nameToken("behind"), {K: 9, N: 9, S: "x"}}
	was := slices.Clone(room)
	if s := impl.LineOf(room[:2]); s != "abc 10" {
		t.Errorf("what lies behind is read: %q", s)
	}
	if s := impl.LineOf(room[:0]); s != "" {
		t.Errorf("what lies behind is read: %q", s)
	}
	if s := impl.LineOf(room[:1]); s != "abc" || shareText(s, room[0].S) {
		t.Errorf("%q shares the token's memory", s)
	}
	for _, z := range room {
		impl.TokenOk(z)
	}
	if !slices.Equal(room, was) {
		t.Error("an argument is written:", room)
	}
}

// Nothing is kept from one line to the next.
func TestLinesHangOnNothingAhead(t *testing.T) {
	for range 3 {
		checkLex(t, "a", nameToken("a"))
		checkNoLex(t, strings.Repeat("a ", 801))
		checkNoLex(t, "A")
		checkLex(t, strings.Repeat("a ", 800), slices.Repeat([]impl.Token{nameToken("a")}, 800)...)
		checkLex(t, "")
	}
}

// A line is gone through by goto, from state to state: no loop stands beside it in Lex.
func TestALineIsGoneThroughByGoto(t *testing.T) {
	_, files := programFiles(t)
	f := files["l09_token.go"]
	if f == nil {
		t.Fatal("no l09_token.go")
	}
	jumps, loops := 0, 0
	for _, d := range f.Decls {
		x, ok := d.(*ast.FuncDecl)
		if !ok || x.Name.Name != "Lex" {
			continue
		}
		ast.Inspect(x, func(n ast.Node) bool {
			switch y := n.(type) {
			case *ast.BranchStmt:
				if y.Tok == token.GOTO {
					jumps++
				}
			case *ast.ForStmt, *ast.RangeStmt:
				loops++
			}
			return true
		})
	}
	if jumps < 5 || loops > 0 {
		t.Error("jumps and loops:", jumps, loops)
	}
}
