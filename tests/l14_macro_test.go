package tests

import (
	"fmt"
	"go/ast"
	"go/types"
	"math"
	"slices"
	"strconv"
	"strings"
	"testing"
	"unsafe"

	"loop.example/g00329/impl"
)

// lexed is of a line that is read.
func lexed(t *testing.T, s string) []impl.Token {
	t.Helper()
	l, ok := impl.Lex(s)
	if !ok {
		t.Fatalf("this test has a line that is not read: %.300q", s)
	}
	return l
}

func rowsOf(t *testing.T, s string) [][]impl.Token {
	t.Helper()
	var rows [][]impl.Token
	for line := range strings.Lines(s) {
		rows = append(rows, lexed(t, strings.TrimSuffix(line, "\n")))
	}
	return rows
}

func sameRows(a, b [][]impl.Token) bool { return slices.EqualFunc(a, b, slices.Equal) }

func textOfRows(rows [][]impl.Token) string {
	s := ""
	for _, row := range rows {
		s += impl.LineOf(row) + "\n"
	}
	return s
}

func copyRows(rows [][]impl.Token) [][]impl.Token {
	var l [][]impl.Token
	for _, row := range rows {
		l = append(l, slices.Clone(row))
	}
	return l
}

func checkSubst(t *testing.T, l []impl.Token, params []string, args [][]impl.Token, want ...impl.Token) {
	t.Helper()
	if got := impl.Subst(l, params, args); !slices.Equal(got, want) {
		t.Errorf("Subst of %.300s, %v, %v: %.300s, want %.300s", fmt.Sprint(l), params, args, fmt.Sprint(got), fmt.Sprint(want))
	}
}

func TestSubstWrittenOut(t *testing.T) {
	for _, x := range []struct{ line, params, args, want string }{
		{"", "", "", ""},
		{"", "a", "1", ""},
		{"mov a , b", "", "", "mov a , b"},
		{"mov a , b", "", "1|2", "mov a , b"},
		{"mov a , b", "c d", "1|2", "mov a , b"},
		{"mov a , b", "a b", "# 5|r0", "mov # 5 , r0"},
		{"mov a , b", "b a", "# 5|r0", "mov r0 , # 5"},
		{"mov a , b", "a b", "# 5", "mov # 5 ,"},
		{"mov a , b", "a b", "", "mov ,"},
		{"mov a , b", "b", "", "mov a ,"},
		{"mov a , b", "a", "1|2|3", "mov 1 , b"},
		{"mov a , b", "a b", "1|2|3|4|5", "mov 1 , 2"},
		{"a", "a", "1", "1"},
		{"a", "a", "", ""},
		{"a", "a", "|2", ""},
		{"a a a", "a", "1", "1 1 1"},
		{"a a a", "a", "1 , 2", "1 , 2 1 , 2 1 , 2"},
		{"a a a", "a", "", ""},
		{"a 1 a", "a", "2", "2 1 2"},
		{"1 a 2", "a", "", "1 2"},
		{"1 a 2", "a", "( sp ) +", "1 ( sp ) + 2"},
		{"a b c d", "a b c d", "1||3 3|", "1 3 3"},
		{"a b c d", "d c b a", "1|2|3|4", "4 3 2 1"},
		{"a b c d", "b d", "a|c", "a a c c"},
		{"a b", "a b", "b|a", "b a"},
		{"a b", "a b", "a b|b a", "a b b a"},
		{"a", "a", "a", "a"},
		{"a", "a", "a a", "a a"},
		{"a b", "a a", "1|2", "1 b"},
		{"a b", "a a b", "1|2|3", "1 3"},
		{"a b", "a b a", "|2|3", "2"},
		{"a ab aa b", "a b", "1|2", "1 ab aa 2"},
		{"a : .a . a", "a", "1", "1 : .a . 1"},
		{".macro a b", "a b", "x|y , z", ".macro x y , z"},
		{".macro .a mov", "a mov macro", "1|2|3", ".macro .a mov"},
		{"over", "over", "1", "1"},
	} {
		var args [][]impl.Token
		if x.args != "" {
			for _, arg := range strings.Split(x.args, "|") {
				args = append(args, lexed(t, arg))
			}
		}
		checkSubst(t, lexed(t, x.line), strings.Fields(x.params), args, lexed(t, x.want)...)
	}
}

// What reads as a param does, and is no name, stays.
func TestSubstOfOtherKinds(t *testing.T) {
	one := [][]impl.Token{{numToken(1)}}
	for _, z := range []impl.Token{keptToken("mov"), keptToken("r0"), keptToken("a"), dotToken(".a"), dotToken("a"), markToken("a"), markToken(","), {K: impl.KNum, N: 8, S: "a"}, {S: "a"}, {K: 6, S: "a"}, {K: -1, S: "a"}, {K: math.MaxInt, S: "a"}, {}} {
		checkSubst(t, []impl.Token{z}, []string{z.S}, one, z)
		checkSubst(t, []impl.Token{nameToken("a"), z, nameToken("a")}, []string{"a", z.S}, one, numToken(1), z, numToken(1))
	}
	// The texts of params and of tokens are not asked for a form.
	for _, s := range []string{"a", "", "mov", "A", "sevenle", ".a", ",", "\x00", "\xff"} {
		checkSubst(t, []impl.Token{nameToken(s)}, []string{s}, one, numToken(1))
		checkSubst(t, []impl.Token{nameToken(s)}, []string{s + "a"}, one, nameToken(s))
		checkSubst(t, []impl.Token{nameToken(s)}, []string{"a" + s}, one, nameToken(s))
	}
	checkSubst(t, []impl.Token{nameToken("a")}, []string{"a"}, [][]impl.Token{{keptToken("x"), {K: 9, N: -9, S: "9"}, {}}}, keptToken("x"), impl.Token{K: 9, N: -9, S: "9"}, impl.Token{})
}

func TestSubstOfLongLines(t *testing.T) {
	a, one := nameToken("a"), numToken(1)
	for _, count := range []int{800, 801, 5000} {
		checkSubst(t, slices.Repeat([]impl.Token{a}, count), []string{"a"}, [][]impl.Token{{one}}, slices.Repeat([]impl.Token{one}, count)...)
		checkSubst(t, slices.Repeat([]impl.Token{a}, 3), []string{"a"}, [][]impl.Token{slices.Repeat([]impl.Token{one}, count)}, slices.Repeat([]impl.Token{one}, 3*count)...)
		checkSubst(t, slices.Repeat([]impl.Token{a}, count), []string{"a"}, nil)
		checkSubst(t, slices.Repeat([]impl.Token{a}, count), nil, nil, slices.Repeat([]impl.Token{a}, count)...)
	}
	// More params than a macro may have are params, too.
	var params []string
	var l, want []impl.Token
	var args [][]impl.Token
	for i := range 300 {
		params = append(params, fmt.Sprintf("n%d", i))
		l = append(l, nameToken(params[i]))
		args = append(args, []impl.Token{numToken(i)})
		want = append(want, numToken(i))
	}
	checkSubst(t, l, params, args, want...)
	checkSubst(t, l, params, args[:7], want[:7]...)
}

func checkArgs(t *testing.T, l []impl.Token, want ...[]impl.Token) {
	t.Helper()
	if got := impl.ArgsOf(l); !sameRows(got, want) {
		t.Errorf("ArgsOf of %v: %v, want %v", l, got, want)
	}
}

func TestArgsWrittenOutOfLines(t *testing.T) {
	for line, want := range map[string][]string{
		"":                 {},
		"a":                {"a"},
		"a b":              {"a b"},
		"a , b":            {"a", "b"},
		",":                {"", ""},
		", ,":              {"", "", ""},
		", , ,":            {"", "", "", ""},
		", a":              {"", "a"},
		"a ,":              {"a", ""},
		", a ,":            {"", "a", ""},
		"a , , b":          {"a", "", "b"},
		"a , , , b":        {"a", "", "", "b"},
		", , a":            {"", "", "a"},
		"a , ,":            {"a", "", ""},
		"a , , b 1":        {"a", "", "b 1"},
		"1 , 2 , 3 , 4":    {"1", "2", "3", "4"},
		"1,2,3,4,5,6":      {"1", "2", "3", "4", "5", "6"},
		"( a , b )":        {"( a", "b )"},
		"< a + b > , - 1":  {"< a + b >", "- 1"},
		"a , a":            {"a", "a"},
		". : .a ; , b , c": {". : .a"},
		".macro m a , b":   {".macro m a", "b"},
	} {
		var rows [][]impl.Token
		for _, arg := range want {
			rows = append(rows, lexed(t, arg))
		}
		checkArgs(t, lexed(t, line), rows...)
	}
	for _, count := range []int{1, 4, 5, 800, 801, 5000} {
		checkArgs(t, slices.Repeat([]impl.Token{markToken(",")}, count), make([][]impl.Token, count+1)...)
		one := []impl.Token{numToken(1)}
		checkArgs(t, slices.Repeat(one, count), slices.Repeat(one, count))
		checkArgs(t, append(slices.Repeat([]impl.Token{numToken(1), markToken(",")}, count-1), one...), slices.Repeat([][]impl.Token{one}, count)...)
	}
}

func TestCommasThatAreNoMark(t *testing.T) {
	a := nameToken("a")
	for _, z := range []impl.Token{nameToken(","), keptToken(","), dotToken(","), {K: impl.KNum, N: 44, S: ","}, {S: ","}, {K: 6, S: ","}, {K: -4, S: ","}, markToken(",,"), markToken(""), markToken(", "), markToken(";"), markToken("."), numToken(','), {}} {
		checkArgs(t, []impl.Token{z}, []impl.Token{z})
		checkArgs(t, []impl.Token{a, z, a}, []impl.Token{a, z, a})
		checkArgs(t, []impl.Token{z, markToken(","), z}, []impl.Token{z}, []impl.Token{z})
	}
}

func checkExpand(t *testing.T, rows [][]impl.Token, fuel int, want [][]impl.Token) {
	t.Helper()
	if got, ok := impl.Expand(rows, fuel); !ok || !sameRows(got, want) {
		t.Errorf("Expand of %.300q with %d: %.300q, %v, want %.300q", textOfRows(rows), fuel, textOfRows(got), ok, textOfRows(want))
	}
}

func checkExpandNot(t *testing.T, rows [][]impl.Token, fuel int) {
	t.Helper()
	if got, ok := impl.Expand(rows, fuel); ok || len(got) != 0 {
		t.Errorf("Expand of %.300q with %d: %.300q, %v", textOfRows(rows), fuel, textOfRows(got), ok)
	}
}

// checkExpanded wants that what is expanded has no macros, and stays as it is when it is expanded again.
func checkExpanded(t *testing.T, s, want string) {
	t.Helper()
	got, ok := impl.ExpandText(s)
	if !ok || got != want {
		t.Errorf("ExpandText of %.300q: %.300q, %v, want %.300q", s, got, ok, want)
		return
	}
	checkExpand(t, rowsOf(t, s), 1000, rowsOf(t, want))
	checkExpand(t, rowsOf(t, want), 1000, rowsOf(t, want))
	if again, ok := impl.ExpandText(got); !ok || again != got {
		t.Errorf("ExpandText of what is expanded, %.300q: %.300q, %v", got, again, ok)
	}
	for line := range strings.Lines(got) {
		for _, word := range []string{".macro", ".endm", ".rept", ".endr"} {
			if first, _, _ := strings.Cut(strings.TrimSpace(line), " "); first == word {
				t.Errorf("ExpandText of %.300q has the line %.300q", s, line)
			}
		}
	}
}

func checkExpandedNot(t *testing.T, s string) {
	t.Helper()
	if got, ok := impl.ExpandText(s); ok || got != "" {
		t.Errorf("ExpandText of %.300q: %.300q, %v", s, got, ok)
	}
	checkExpandNot(t, rowsOf(t, s), 1000)
}

// checkUses wants that this much fuel is just enough.
func checkUses(t *testing.T, s string, fuel int, want string) {
	t.Helper()
	rows := rowsOf(t, s)
	for _, n := range []int{fuel, fuel + 1, fuel + 100, 1000} {
		if n <= 1000 {
			checkExpand(t, rows, n, rowsOf(t, want))
		}
	}
	for _, n := range []int{fuel - 1, fuel / 2, 0, -1, math.MinInt, 1001, 1002, math.MaxInt} {
		if n < fuel || n > 1000 {
			checkExpandNot(t, rows, n)
		}
	}
}

func TestExpandConstants(t *testing.T) {
	if impl.MaxLines != 200 {
		t.Error("MaxLines", impl.MaxLines)
	}
	m := impl.Mac{Name: "m", Params: []string{"a"}, Body: [][]impl.Token{{nameToken("a")}}}
	if m.Name != "m" || len(m.Params) != 1 || len(m.Body) != 1 {
		t.Error(m)
	}
}

func TestLinesThatStay(t *testing.T) {
	for _, s := range []string{
		"", "\n", "\n\n\n", "halt\n", "halt\nclr r0\n", "a :\n\nmov # 5 , r0\n", "m\n", "m 1 , 2\n", ".word 1\n.end\n", ".globl a\n.sect d , over\n", ", ,\n", ". macro m\n", "1 2\n", "endm\nrept 2\nendr\nmacro m\n",
		".macr m\n", ".macros m\n", ".end m\n", ".endm1\n.endr0\n.rept1 2\n", "a .macro m\n", ": .rept 2\n1 .endr\nmov .endm\n", "a : .macro m\n", "( .rept 2 )\n",
	} {
		checkExpanded(t, s, s)
		checkUses(t, s, strings.Count(s, "\n"), s)
	}
	checkExpand(t, nil, 0, nil)
	checkExpand(t, nil, 1000, nil)
	checkExpand(t, [][]impl.Token{}, 0, nil)
	checkExpand(t, make([][]impl.Token, 3), 3, make([][]impl.Token, 3))
	checkExpandNot(t, nil, -1)
	checkExpandNot(t, nil, 1001)
	checkExpandNot(t, make([][]impl.Token, 3), 2)
}

// A text that reads like a word that begins or ends something makes none of another kind of token.
func TestOtherKindsBeginNothing(t *testing.T) {
	m := lexed(t, ".macro m")
	end := lexed(t, ".endm")
	for _, s := range []string{".macro", ".endm", ".rept", ".endr", "m"} {
		for _, k := range []int{0, impl.KName, impl.KNum, impl.KMark, impl.KKept, 6, -3, impl.KDot} {
			z := impl.Token{K: k, S: s}
			if k == impl.KName && s == "m" || k == impl.KDot && s != "m" {
				continue
			}
			row := []impl.Token{z, nameToken("m")}
			checkExpand(t, [][]impl.Token{row}, 1, [][]impl.Token{row})
			checkExpand(t, [][]impl.Token{{z}}, 1, [][]impl.Token{{z}})
			// Within a macro it begins and ends nothing, either.
			checkExpand(t, [][]impl.Token{m, {z}, end, {nameToken("m")}, {z}}, 4, [][]impl.Token{{z}, {z}})
			checkExpand(t, [][]impl.Token{lexed(t, ".rept 2"), {z}, lexed(t, ".endr")}, 1000, [][]impl.Token{{z}, {z}})
		}
	}
	// A line stays whatever its tokens are.
	odd := []impl.Token{nameToken("mov"), nameToken(""), nameToken("sevenle"), {K: 9, N: -9, S: "9"}, numToken(-1), {}}
	checkExpand(t, [][]impl.Token{odd, m, odd, end, {nameToken("m")}}, 4, [][]impl.Token{odd, odd})
}

func TestLinesOf800Tokens(t *testing.T) {
	one := numToken(1)
	full, over := slices.Repeat([]impl.Token{one}, 800), slices.Repeat([]impl.Token{one}, 801)
	row := func(s string) []impl.Token { return lexed(t, s) }
	for _, x := range []struct{ ahead, behind [][]impl.Token }{
		{nil, nil},
		{rowsOf(t, "halt\n"), rowsOf(t, "halt\n")},
		{rowsOf(t, ".macro m\n"), rowsOf(t, ".endm\n")},
		{rowsOf(t, ".macro m\n"), rowsOf(t, ".endm\nm\n")},
		{rowsOf(t, ".macro m\n.macro k\n"), rowsOf(t, ".endm\n.endm\nm\n")},
		{rowsOf(t, ".rept 0\n"), rowsOf(t, ".endr\n")},
		{rowsOf(t, ".rept 1\n"), rowsOf(t, ".endr\n")},
		{rowsOf(t, ".rept 1\n.rept 0\n"), rowsOf(t, ".endr\n.endr\n")},
		{rowsOf(t, ".macro m\n.rept 0\n"), rowsOf(t, ".endr\n.endm\nm\n")},
	} {
		rows := func(line []impl.Token) [][]impl.Token { return slices.Concat(x.ahead, [][]impl.Token{line}, x.behind) }
		if _, ok := impl.Expand(rows(full), 1000); !ok {
			t.Errorf("Expand of 800 tokens ahead of %q", textOfRows(x.behind))
		}
		checkExpandNot(t, rows(over), 1000)
		checkExpandNot(t, rows(append(over, over...)), 1000)
	}
	checkExpand(t, [][]impl.Token{full}, 1, [][]impl.Token{full})
	checkExpand(t, [][]impl.Token{row(".macro m"), full, row(".endm"), row("m")}, 3, [][]impl.Token{full})
	// The line that names a macro, those that begin something, and those that end it, count likewise.
	call := append(row("m"), full[:799]...)
	checkExpand(t, [][]impl.Token{row(".macro m"), row(".endm"), call}, 2, nil)
	checkExpandNot(t, [][]impl.Token{row(".macro m"), row(".endm"), append(call, one)}, 1000)
}

func TestLinesThatAMacroMakesOf800Tokens(t *testing.T) {
	long := func(count int, ahead string) string { return ahead + strings.Repeat(" 1", count) + "\n" }
	for _, x := range []struct {
		body  string
		param int // how many tokens make 800 of the line
	}{
		{long(799, "a"), 1},
		{long(790, "a"), 10},
		{"a\n", 799}, // as the call has the name, too
		{"a a\n", 400},
		{long(400, "a a"), 200},
		{strings.Repeat("a ", 800) + "\n", 1},
		{"halt\n" + long(700, "a"), 100},
		{".rept 0\n" + long(700, "a") + ".endr\n", 100},
		{".macro k\n" + long(700, "a") + ".endm\n", 100},
		{".rept 2\n" + long(700, "a") + ".endr\n", 100},
	} {
		macro := ".macro m a\n" + x.body + ".endm\n"
		for _, count := range []int{0, 1, x.param - 1, x.param} {
			if _, ok := impl.Expand(rowsOf(t, macro+long(count, "m")), 1000); !ok {
				t.Errorf("%.40q with %d tokens is refused", macro, count)
			}
		}
		if x.param < 799 {
			checkExpandNot(t, rowsOf(t, macro+long(x.param+1, "m")), 1000)
			checkExpandNot(t, rowsOf(t, macro+long(799, "m")), 1000)
		}
	}
	checkExpanded(t, ".macro m a\n"+long(799, "a")+".endm\nm 2\nm\n", long(799, "2")+strings.TrimSpace(long(799, ""))+"\n")
	checkExpandedNot(t, ".macro m a\n"+long(799, "a")+".endm\nm 2 2\n")
	// A line that grows each time that it names itself ends, too.
	checkExpandedNot(t, ".macro m a\nm a a\n.endm\nm 1\n")
	checkExpandedNot(t, ".macro m a\nm a 1\n.endm\nm 1\n")
}

func TestUpTo200LinesThatStay(t *testing.T) {
	halts := func(count int) string { return strings.Repeat("halt\n", count) }
	ten := ".macro ten\n" + halts(10) + ".endm\n"
	for s, count := range map[string]int{
		halts(199):                           199,
		halts(200):                           200,
		".rept 310\nhalt\n.endr\n":           200,
		".rept 307\nhalt\n.endr\n":           199,
		".rept 24\n" + halts(10) + ".endr\n": 200,
		ten + strings.Repeat("ten\n", 20):    200,
		ten + ".rept 24\nten\n.endr\n":       200,
		halts(100) + ".rept 144\nhalt\n.endr\n" + ".macro m\n.endm\nm\n": 200,
		".macro m\n" + halts(100) + ".endm\nm\nm\n":                      200,
	} {
		checkExpanded(t, s, halts(count))
		checkExpand(t, rowsOf(t, s+".macro last\nhalt\n.endm\n.rept 0\nhalt\n.endr\n"), 1000, rowsOf(t, halts(count)))
		for _, more := range []string{"halt\n", "\n", ".rept 1\n\n.endr\n", ".macro m\nm\n.endm\nm\n", ".macro last\nhalt\n.endm\nlast\n"} {
			if count == 200 {
				checkExpandNot(t, rowsOf(t, s+more), 1000)
				checkExpandNot(t, rowsOf(t, more+s), 1000)
			}
		}
	}
	checkExpand(t, rowsOf(t, halts(200)), 200, rowsOf(t, halts(200)))
	checkExpand(t, make([][]impl.Token, 200), 1000, make([][]impl.Token, 200))
	for _, count := range []int{201, 202, 400, 1000, 5000} {
		checkExpandNot(t, make([][]impl.Token, count), 1000)
		checkExpandNot(t, slices.Repeat(rowsOf(t, "halt\n"), count), 1000)
	}
	// Lines that do not stay are not counted.
	checkExpand(t, slices.Repeat(rowsOf(t, ".macro m\nhalt\n.endm\n"), 1000), 1000, nil)
	checkExpand(t, slices.Concat(rowsOf(t, ".macro m\n"), make([][]impl.Token, 5000), rowsOf(t, ".endm\nhalt\n")), 2, rowsOf(t, "halt\n"))
	checkExpand(t, slices.Concat(rowsOf(t, ".rept 0\n"), make([][]impl.Token, 5000), rowsOf(t, ".endr\nhalt\n")), 2, rowsOf(t, "halt\n"))
}

func TestMacrosWrittenOut(t *testing.T) {
	const two = ".macro two a,b\n.word b,a\n.endm\n"
	for s, want := range map[string]string{
		".macro m\n.endm\n":                                     "",
		".macro m\n.endm":                                       "",
		".macro m\n.endm\nm\n":                                  "",
		".macro m\n.endm\nm 1 , 2 : .endm\n":                    "",
		".macro m\n\n.endm\nm\n":                                "\n",
		".macro m\n\n;\n.endm\nhalt\nm\nhalt\n":                 "halt\n\n\nhalt\n",
		".macro m\nhalt\n.endm\n":                               "",
		".macro m\nhalt\n.endm\nm\n":                            "halt\n",
		".macro m\nhalt\n.endm\nm\nm\n":                         "halt\nhalt\n",
		" .macro m ; m\n halt\n\t.endm ; m\n m ; 1\n":           "halt\n",
		".macro m\nhalt\nclr r0\n.endm\na:\nm\nb:\n":            "a :\nhalt\nclr r0\nb :\n",
		".macro m\nhalt\n.endm\nm:\nm=5\nm m\n":                 "halt\nhalt\nhalt\n",
		".macro m\nhalt\n.endm\nclr m\na: m\n: m\n.m\n":         "clr m\na : m\n: m\n.m\n",
		".macro sixlet\nhalt\n.endm\nsixlet\n":                  "halt\n",
		".macro over\nhalt\n.endm\nover\nmacro\n":               "halt\nmacro\n",
		two + "two 1,2":                                         ".word 2 , 1\n",
		two + "two 1":                                           ".word , 1\n",
		two + "two":                                             ".word ,\n",
		two + "two ,":                                           ".word ,\n",
		two + "two ,2":                                          ".word 2 ,\n",
		two + "two 1,2,3":                                       ".word 2 , 1\n",
		two + "two 1 + 2,<3,4>":                                 ".word < 3 , 1 + 2\n",
		two + "two a,b":                                         ".word b , a\n",
		two + "two b,a":                                         ".word a , b\n",
		two + "two a b,b a":                                     ".word b a , a b\n",
		two + "two a\na\nb\n":                                   ".word , a\na\nb\n",
		two + "two two,two":                                     ".word two , two\n",
		".macro m a\na\n.endm\nm\n":                             "\n",
		".macro m a\na\n.endm\nm halt\nm clr r0\n":              "halt\nclr r0\n",
		".macro m a\n.word a,a,b\n.endm\nm 5\n":                 ".word 5 , 5 , b\n",
		".macro m m\n.word m\n.endm\nm 5\n":                     ".word 5\n",
		".macro m a,b,c,d\n.word d,c,b,a\n.endm\nm 1,2,3,4,5\n": ".word 4 , 3 , 2 , 1\n",
		".macro m a , b ,c\n.word a,b,c,d\n.endm\nm 1,2,3,4\n":  ".word 1 , 2 , 3 , d\n",
		".macro push x\nmov x,-(sp)\n.endm\npush #5\npush r0\npush @a(r1)\n":  "mov # 5 , - ( sp )\nmov r0 , - ( sp )\nmov @ a ( r1 ) , - ( sp )\n",
		".macro m a\n.a\nmova\nmov a,a1\n.endm\nm r0\n":                       ".a\nmova\nmov r0 , a1\n",
		".macro r6 r7,r8,r9,over\n.word r7,r8,r9,over\n.endm\nr6 sp,pc,1,mov": ".word sp , pc , 1 , mov\n",
	} {
		checkExpanded(t, s, want)
	}
}

func TestAMacroIsTheOneThatBeganLast(t *testing.T) {
	const first, second = ".macro m\nhalt\n.endm\n", ".macro m a\nclr a\n.endm\n"
	for s, want := range map[string]string{
		first + second + "m r1\n":                                            "clr r1\n",
		second + first + "m r1\n":                                            "halt\n",
		first + "m\n" + second + "m r1\n" + first + "m\n":                    "halt\nclr r1\nhalt\n",
		"m\n" + first + "m\n":                                                "m\nhalt\n",
		"m:\nm r1\n" + second:                                                "m :\nm r1\n",
		".macro k\nm r1\n.endm\nk\n" + second + "k\n" + first + "k\n":        "m r1\nclr r1\nhalt\n",
		".macro m\n" + first + "m\n.endm\nm\nm\n":                            "halt\nhalt\n",
		".macro m\nclr r0\n" + first + "clr r1\nm\n.endm\nm\nm\n":            "clr r0\nclr r1\nhalt\nhalt\n",
		".macro k\n" + second + ".endm\n" + first + "m\nk\nm r1\n":           "halt\nclr r1\n",
		".rept 2\n" + first + "m\n" + second + "m r1\n.endr\nm r2\n":         "halt\nclr r1\nhalt\nclr r1\nclr r2\n",
		".rept 2\nm\n" + first + ".endr\nm\n":                                "m\nhalt\nhalt\n",
		".rept 0\n" + second + ".endr\nm r1\n":                               "m r1\n",
		first + ".rept 1\n" + second + ".endr\nm r1\n":                       "clr r1\n",
		first + ".macro k\nm r1\n" + second + "m r1\n.endm\nk\nk\n":          "halt\nclr r1\nclr r1\nclr r1\n",
		".macro k\n.macro k\nhalt\n.endm\n.macro k\nclr r0\n.endm\n.endm\nk": "",
	} {
		checkExpanded(t, s, want)
	}
	checkExpanded(t, ".macro k\n.macro k\nhalt\n.endm\n.macro k\nclr r0\n.endm\n.endm\nk\nk\n", "clr r0\n")
}

func TestMacrosWithinMacros(t *testing.T) {
	const out = ".macro out n\n.macro in m\n.word m,n\n.endm\nin 7\n.endm\n"
	const def = ".macro def n,v\n.macro n a\n.word a,v\n.endm\n.endm\n"
	const three = ".macro a x\n.macro b y\n.macro c z\n.word x,y,z\n.endm\n.endm\n.endm\n"
	for s, want := range map[string]string{
		out:                                    "",
		out + "in 1\n":                         "in 1\n",
		out + "out 5\n":                        ".word 7 , 5\n",
		out + "out 5\nin 6\n":                  ".word 7 , 5\n.word 6 , 5\n",
		out + "out 5\nin n\nout 4\nin 6\n":     ".word 7 , 5\n.word n , 5\n.word 7 , 4\n.word 6 , 4\n",
		out + "out m\n":                        ".word 7 , 7\n",
		out + "out\n":                          ".word 7 ,\n",
		def + "def five,5\ndef six,6\nsix 1\n": ".word 1 , 6\n",
		def + "def five,5\ndef six,6\nsix 1\nfive 2\nsix a\n":           ".word 1 , 6\n.word 2 , 5\n.word a , 6\n",
		def + "def f,a\nf 1\n":                                          ".word 1 , 1\n",
		def + "def def,1\ndef 2\n":                                      ".word 2 , 1\n",
		def + "def n,1\nn 2\n":                                          ".word 2 , 1\n",
		three + "c 3\n":                                                 "c 3\n",
		three + "a 1\nc 3\n":                                            "c 3\n",
		three + "a 1\nb 2\nc 3\nc 4\n":                                  ".word 1 , 2 , 3\n.word 1 , 2 , 4\n",
		three + "a 1\nb 2\na 5\nc 3\nb 6\nc 3\n":                        ".word 1 , 2 , 3\n.word 5 , 6 , 3\n",
		".macro m\n.macro k\n.endm\n.macro l\n.endm\nhalt\n.endm\nm\n":  "halt\n",
		".macro m\n.macro m\n.macro m\n.endm\n.endm\n.endm\nhalt\nm\n":  "halt\n",
		".macro m\nk\n.endm\n.macro k\nhalt\n.endm\nm\nm\n":             "halt\nhalt\n",
		".macro m a\nk a,1\n.endm\n.macro k a,b\n.word b,a\n.endm\nm 2": ".word 1 , 2\n",
		".macro m a\nk a\n.endm\n.macro k a,b\n.word b,a\n.endm\nm 2,3": ".word , 2\n",
		".macro m a\na 1\n.endm\n.macro k a\n.word a\n.endm\nm k\nm l":  ".word 1\nl 1\n",
		".macro m a\n.word 1\na\n.word 2\n.endm\nm m\n":                 ".word 1\n.word 1\n\n.word 2\n.word 2\n",
	} {
		checkExpanded(t, s, want)
	}
	for _, s := range []string{
		def + "def 5,5\n", def + "def mov,5\n", def + "def a b,5\n", def + "def a : b,5\n",
		".macro m a\n.macro k a\n.endm\n.endm\nm 1\n", ".macro m a\n.macro k a,b\n.endm\n.endm\nm\n", ".macro m a\n.macro k a,b\n.endm\n.endm\nm b\n",
		".macro m\n.macro k\n.endm\n", ".macro m\n.macro k\nhalt\n.endm\nm\n", ".macro m\n.endm\n.macro k\n", ".macro m\n.macro k\n.endm\n.endm\n.endm\n",
	} {
		checkExpandedNot(t, s)
	}
	// With no name in the place of n, the a behind it is the macro's name.
	checkExpanded(t, def+"def a,5\n", "")
	checkExpanded(t, def+"def ,5\na 1\n", ".word a , 5\n")
	checkExpanded(t, def+"def\na 1\n", ".word a ,\n")
	checkExpanded(t, ".macro m a\n.macro k a\n.word b\n.endm\n.endm\nm b\nk 1\n", ".word 1\n")
}

func TestWhatBeginsNoMacro(t *testing.T) {
	for _, head := range []string{
		"", " 1", " mov", " r0", " .m", " .", " ,", " :", " , m", " m ,", " m , a", " m 1", " m mov", " m sp", " m .a", " m a b", " m a ,", " m , a , b", " m a , , b", " m a , b ,", " m a , 1", " m a : b", " m ( a )", " m a + b", " m m m", " m a , a", " m a , b , a", " m a , b , b", " m a , b , c , c", " m a , b , c , d , e", " m a , b , c , d , d", " m a , b , c , d ,", " m a , b , c , d e", " 1 m", " m = 5",
	} {
		s := ".macro" + head + "\nhalt\n.endm\n"
		checkExpandedNot(t, s)
		checkExpandedNot(t, s+"m\n")
		checkExpandedNot(t, "halt\n"+s+"halt\n")
		checkExpandedNot(t, ".rept 1\n"+s+".endr\n")
		checkExpandedNot(t, ".macro k\n"+s+".endm\nk\n")
		// It is not gone through, so it begins none of any form.
		checkExpanded(t, ".rept 0\n"+s+".endr\n", "")
		checkExpanded(t, ".macro k\n"+s+".endm\n", "")
	}
	for _, head := range []string{" m", " m a", " m a , b", " m a , b , c", " m a , b , c , d", " m m", " m macro , rept , endm , endr"} {
		checkExpanded(t, ".macro"+head+"\nhalt\n.endm\nm\n", "halt\n")
	}
}

// A name that comes as a token by itself may have another form: then it is none.
func TestNamesOfMacrosThatHaveNoForm(t *testing.T) {
	end, comma := dotToken(".endm"), markToken(",")
	head := func(l ...impl.Token) [][]impl.Token {
		return [][]impl.Token{append([]impl.Token{dotToken(".macro")}, l...), {end}}
	}
	m, a := nameToken("m"), nameToken("a")
	checkExpand(t, head(m), 1, nil)
	checkExpand(t, head(m, a), 1, nil)
	for _, s := range []string{"", "mov", "r0", "pc", "A", "aB", "1a", "1", "sevenle", "a_", "a ", " a", ".a", ",", "\x00", "a\n", "\xff", "\u00e4", strings.Repeat("a", 5000)} {
		z := nameToken(s)
		checkExpandNot(t, head(z), 1000)
		checkExpandNot(t, head(z, a), 1000)
		checkExpandNot(t, append(head(z), []impl.Token{z}), 1000)
		checkExpandNot(t, head(m, z), 1000)
		checkExpandNot(t, head(m, a, comma, z), 1000)
		checkExpandNot(t, head(m, z, comma, a), 1000)
	}
	for _, k := range []int{0, impl.KNum, impl.KDot, impl.KMark, impl.KKept, 6, -1} {
		z := impl.Token{K: k, S: "a"}
		checkExpandNot(t, head(z), 1000)
		checkExpandNot(t, head(m, z), 1000)
		checkExpandNot(t, head(m, a, z, nameToken("b")), 1000)
		checkExpandNot(t, head(m, a, impl.Token{K: k, S: ", "}, nameToken("b")), 1000)
	}
	for _, n := range []int{-1, -2, 65536, 65537, 1 << 32, math.MinInt, math.MaxInt} {
		checkExpandNot(t, [][]impl.Token{{dotToken(".rept"), numToken(n)}, {dotToken(".endr")}}, 1000)
	}
	for _, k := range []int{0, impl.KName, impl.KDot, impl.KMark, impl.KKept, 6, -1} {
		checkExpandNot(t, [][]impl.Token{{dotToken(".rept"), {K: k, N: 1, S: "1"}}, {dotToken(".endr")}}, 1000)
	}
}

func TestReptsWrittenOut(t *testing.T) {
	for s, want := range map[string]string{
		".rept 0\n.endr\n":                                                                           "",
		".rept 0\nhalt\n.endr\n":                                                                     "",
		".rept 0\nhalt\n.endr":                                                                       "",
		".rept 1\nhalt\n.endr\n":                                                                     "halt\n",
		".rept 3\nhalt\n.endr\n":                                                                     "halt\nhalt\nhalt\n",
		".rept 10\n\n.endr\n":                                                                        strings.Repeat("\n", 8),
		".rept 12\nhalt\n.endr\n":                                                                    strings.Repeat("halt\n", 10),
		".rept 2\n.endr\nhalt\n":                                                                     "halt\n",
		"a:\n.rept 2\nhalt\nclr r0\n.endr\nb:\n":                                                     "a :\nhalt\nclr r0\nhalt\nclr r0\nb :\n",
		" .rept 2 ; 3\n\thalt\n .endr ; 4\n":                                                         "halt\nhalt\n",
		".rept 2\nhalt\n.endr\n.rept 2\nclr r0\n.endr\n":                                             "halt\nhalt\nclr r0\nclr r0\n",
		".rept 2\n.rept 2\nhalt\n.endr\n.endr\n":                                                     strings.Repeat("halt\n", 4),
		".rept 2\nclr r0\n.rept 3\nhalt\n.endr\n.endr\n":                                             strings.Repeat("clr r0\nhalt\nhalt\nhalt\n", 2),
		".rept 2\n.rept 0\nhalt\n.endr\nclr r0\n.endr\n":                                             "clr r0\nclr r0\n",
		".rept 0\n.rept 2\nhalt\n.endr\nclr r0\n.endr\n":                                             "",
		".rept 2\n.rept 2\n.rept 2\n\n.endr\n.endr\n.endr\n":                                         strings.Repeat("\n", 8),
		".rept 2\n.rept 1\n1\n.endr\n.rept 2\n2\n.endr\n.endr":                                       "1\n2\n2\n1\n2\n2\n",
		".rept 2\n.macro m\nhalt\n.endm\nm\n.endr\nm\n":                                              "halt\nhalt\nhalt\n",
		".rept 2\n.macro m a\n.word a\n.endm\n.endr\nm 1\n":                                          ".word 1\n",
		".macro m\n.rept 2\nhalt\n.endr\n.endm\nm\nm\n":                                              strings.Repeat("halt\n", 4),
		".macro m\n.rept 0\nhalt\n.endr\n.endm\nm\nm\n":                                              "",
		".macro m n\n.rept n\nhalt\n.endr\n.endm\nm 3\nm 0\n":                                        "halt\nhalt\nhalt\n",
		".macro m n,a\n.rept n\na\n.endr\n.endm\nm 2,clr r0":                                         "clr r0\nclr r0\n",
		".macro m\nhalt\n.endm\n.rept 2\nm\n.endr\n":                                                 "halt\nhalt\n",
		".macro m\nhalt\n.endm\n.rept 2\n.rept 2\nm\n.endr\nm\n.endr\n":                              strings.Repeat("halt\n", 6),
		".macro m a\n.rept 2\n.macro k b\n.word a,b\n.endm\nk 1\n.endr\n.endm\nm 5\nk 2\n":           ".word 5 , 1\n.word 5 , 1\n.word 5 , 2\n",
		".rept 2\n.macro m\n.rept 2\nhalt\n.endr\n.endm\nm\n.endr\n":                                 strings.Repeat("halt\n", 4),
		".macro m a\na 2\nhalt\n.endr\n.endm\nm .rept\n":                                             "halt\nhalt\n",
		".macro m a\na k\nhalt\n.endm x\n.macro x\n.endm\n.endm\n":                                   "",
		".macro once\nhalt\n.macro once\n.endm\n.endm\n.rept 3\nonce\n.endr\n":                       "halt\n",
		".macro down a,b,c\na\ndown b,c\n.endm\n.macro stop\n.macro down\n.endm\n.endm\ndown 1,stop": "1\n",
	} {
		checkExpanded(t, s, want)
	}
	// With a gone, `.endr a` is `.endr` alone.
	const often = ".macro m a\n.rept 2\nhalt\n.endr a\n"
	checkExpanded(t, often+".endm\nm\n", "halt\nhalt\n")
	checkExpandedNot(t, often+".endm\nm 1\n")
	checkExpandedNot(t, often+".endr\n.endm\nm\n")
	checkExpandedNot(t, often+".endr\n.endm\nm 1\n")
}

func TestWhatIsNoRept(t *testing.T) {
	for _, head := range []string{"", " a", " 1 2", " 1 ,", " , 1", " 1 , 2", " - 1", " # 1", " 1 a", " a 1", " mov", " .", " .a", " < 1 >", " 1 + 1", " 0 0", " m"} {
		s := ".rept" + head + "\nhalt\n.endr\n"
		checkExpandedNot(t, s)
		checkExpandedNot(t, "halt\n"+s+"halt\n")
		checkExpandedNot(t, ".rept 1\n"+s+".endr\n")
		checkExpandedNot(t, ".macro m\n"+s+".endm\nm\n")
		checkExpandedNot(t, ".macro m\n.endm\n"+s)
		checkExpanded(t, ".rept 0\n"+s+".endr\n", "")
		checkExpanded(t, ".macro m\n"+s+".endm\n", "")
	}
}

func TestWhatBeginsAndDoesNotEnd(t *testing.T) {
	for _, s := range []string{
		".macro m\n", ".macro m", ".macro m\nhalt\n", "halt\n.macro m\nhalt\n", ".macro m\nhalt\n.endm 1\n", ".macro m\n.endm m\n", ".macro m\n.endm ,\n", ".macro m\n.endm .endm\n", ".macro m\nhalt .endm\n", ".macro m\n. endm\n", ".macro m\nendm\n", ".macro m\n.endr\n", ".macro m\n.end\n",
		".rept 1\n", ".rept 1", ".rept 0\n", ".rept 0\nhalt\n", "halt\n.rept 1\nhalt\n", ".rept 1\nhalt\n.endr 1\n", ".rept 0\n.endr a\n", ".rept 1\nhalt .endr\n", ".rept 1\n.endm\n", ".rept 0\n.endm\n", ".rept 1\n.end\n", ".rept 1\n. endr\n",
		".rept 1\n.rept 1\n.endr\n", ".rept 0\n.rept 1\n.endr\n", ".rept 1\n.macro m\n.endm\n", ".macro m\n.rept 1\n.endr\n", ".macro m\n.rept 1\n.endm\nm\n", ".rept 1\n.macro m\n.endr\n", ".macro m\n.macro k\n.endm\n",
		".macro m\n.endm\n.macro m\nm\n", ".macro m\n.endm\n.rept 1\nm\n",
		// What begins in what a macro is, or in lines that are there often, ends there, too.
		".macro m\n.rept 2\n.endm\nm\nhalt\n.endr\n", ".macro m\n.rept 2\nhalt\n.endm\nm\n.endr\n", ".macro m a\na k\n.endm\nm .macro\nhalt\n.endm\n", ".macro m\n.endr\n.endm\n.rept 2\nm\n", ".rept 2\n.macro m\n.endr\n.endm\n", ".rept 2\n.macro m\n.endr\nhalt\n.endm\n.endr\n",
	} {
		checkExpandedNot(t, s)
	}
}

func TestWhatEndsAndDidNotBegin(t *testing.T) {
	for _, end := range []string{".endm", ".endr", ".endm 1", ".endr 1", ".endm m", ".endr .endr", ".endm ,"} {
		for _, ahead := range []string{"", "halt\n", "\n", ".macro m\n.endm\n", ".macro m\nhalt\n.endm\nm\n", ".rept 1\n.endr\n", ".rept 0\n.endr\n", ".rept 2\nhalt\n.endr\n", ".macro m\n.macro k\n.endm\n.endm\n", ".rept 1\n.rept 1\n.endr\n.endr\n"} {
			checkExpandedNot(t, ahead+end)
			checkExpandedNot(t, ahead+end+"\n")
			checkExpandedNot(t, ahead+end+"\nhalt\n")
			checkExpandedNot(t, ahead+end+"\n"+ahead)
		}
	}
	for _, s := range []string{
		".rept 1\n.endm\n.endr\n", ".rept 1\n.endm 1\n.endr\n", ".rept 1\n.endr 1\n.endr\n", ".macro m\n.endr\n.endm\nm\n", ".macro m\n.endr 1\n.endm\nm\n", ".macro m\n.endm 1\n.endm\nm\n", ".macro m a\na\n.endm\nm .endm\n", ".macro m a\na\n.endm\nm .endr\n", ".macro m a\n.endm a\n.endm\nm\n", ".macro m\n.endr\n.endm\n.rept 2\nm\n.endr\n",
	} {
		checkExpandedNot(t, s)
	}
	// What is not gone through ends nothing.
	for _, s := range []string{
		".rept 0\n.endm\n.endr\n", ".rept 0\n.endr 1\n.endr\n", ".rept 0\n.endm 1\n.endr\n", ".macro m\n.endr\n.endm\n", ".macro m\n.endm 1\n.endm\n", ".macro m\n.endr 1\n.endm\n", ".macro m\n.macro k\n.endm 1\n.endm\n.endm\nm\n", ".rept 0\n.rept a\n.endr 1\n.endr\n.endr\n",
	} {
		checkExpanded(t, s, "")
	}
}

func TestFuelThatIsJustEnough(t *testing.T) {
	halts := func(count int) string { return strings.Repeat("halt\n", count) }
	const m, two = ".macro m\nhalt\n.endm\n", ".macro two\nhalt\nhalt\n.endm\n"
	for _, x := range []struct {
		s    string
		fuel int
		want string
	}{
		{"", 0, ""},
		{"halt\n", 1, "halt\n"},
		{"\n\n\n", 3, "\n\n\n"},
		{halts(200), 200, halts(200)},
		{m, 1, ""},
		{two, 1, ""},
		{m + m + m, 3, ""},
		{m + "m\n", 3, "halt\n"},
		{two + "two\n", 4, halts(2)},
		{two + "two\nhalt\ntwo\n", 8, halts(5)},
		{".macro m\n.endm\nm\n", 2, ""},
		{".macro m\n\n.endm\nm\n", 3, "\n"},
		{m + ".macro k\nm\nm\n.endm\nk\n", 7, halts(2)},
		{".macro m\n.macro k\nhalt\n.endm\n.endm\n", 1, ""},
		{".macro m\n.macro k\nhalt\n.endm\n.endm\nm\n", 3, ""},
		{".macro m\n.macro k\nhalt\n.endm\nk\n.endm\nm\n", 5, "halt\n"},
		{".rept 0\n.endr\n", 1, ""},
		{".rept 0\nhalt\nhalt\n.endr\n", 1, ""},
		{".rept 1\n.endr\n", 2, ""},
		{".rept 3\n.endr\n", 4, ""},
		{".rept 1\nhalt\n.endr\n", 3, "halt\n"},
		{".rept 2\nhalt\n.endr\n", 5, halts(2)},
		{".rept 2\nhalt\nhalt\n.endr\nhalt\n", 8, halts(5)},
		{".rept 2\n.rept 0\nhalt\n.endr\n.endr\n", 5, ""},
		{".rept 2\n.rept 2\nhalt\n.endr\n.endr\n", 13, halts(4)},
		{".rept 2\n.rept 3\n.endr\n.endr\n", 11, ""},
		{m + ".rept 2\nm\n.endr\n", 8, halts(2)},
		{".rept 2\n" + m + "m\n.endr\n", 9, halts(2)},
		{".macro m\n.rept 2\nhalt\n.endr\n.endm\nm\n", 7, halts(2)},
		{".rept 310\nhalt\n.endr\n", 401, halts(200)},
		{".rept 1746\n.endr\n", 999, ""},
		{".rept 1747\n.endr\n", 1000, ""},
		{".rept 12\n.rept 142\n.endr\n.endr\n", 1001, ""},
		{".rept 11\n.rept 155\n.endr\n.endr\n", 1000, ""},
		{m + ".rept 1746\n.endr\n", 1000, ""},
		{".macro m\n.endm\n.rept 763\nm\n.endr\n", 1000, ""},
		{".macro m\n.endm\n.rept 762\nm\n.endr\nm\n", 999, ""},
	} {
		if x.fuel <= 1000 {
			checkUses(t, x.s, x.fuel, x.want)
			checkExpanded(t, x.s, x.want)
		} else {
			checkExpandNot(t, rowsOf(t, x.s), 1000)
		}
	}
	for _, s := range []string{
		".rept 1750\n.endr\n", ".rept 1751\n.endr\n", ".rept 177777\n.endr\n", ".rept 177777\n.rept 177777\n.rept 177777\n.endr\n.endr\n.endr\n", ".rept 177777\n\n.endr\n", ".rept 177777\n.rept 0\n.endr\n.endr\n", ".rept 177777\n.macro m\n.endm\n.endr\n",
		"halt\n.rept 1747\n.endr\n", ".rept 1747\n.endr\nhalt\n", m + ".rept 1747\n.endr\n", ".macro m\n.endm\n.rept 764\nm\n.endr\n",
	} {
		checkExpandedNot(t, s)
	}
	for _, fuel := range []int{-1, -2, -1000, math.MinInt, 1001, 1002, 65536, 1 << 32, math.MaxInt} {
		for _, s := range []string{"", "halt\n", m + "m\n", ".rept 0\n.endr\n"} {
			checkExpandNot(t, rowsOf(t, s), fuel)
		}
	}
}

// A macro that names itself ends when the fuel is gone.
func TestMacrosThatNameThemselves(t *testing.T) {
	for _, s := range []string{
		".macro m\nm\n.endm\nm\n", ".macro m\nm\nm\n.endm\nm\n", ".macro m\n.rept 2\nm\n.endr\n.endm\nm\n", ".macro m\n.rept 1\nm\n.endr\n.endm\nm\n", ".macro m\nk\n.endm\n.macro k\nm\n.endm\nk\n", ".macro m a\nm a,a\n.endm\nm 1\n", ".macro m a,b\nm b,a\n.endm\nm 1,2\n", ".macro m\nhalt\nm\n.endm\nm\n", ".macro m a\na\n.endm\nm m m m\nm m\n.macro m a\na a\n.endm\nm m\n",
		".macro m\n.macro m\nm\n.endm\nm\n.endm\nm\n", ".rept 177777\n.macro m\nm\n.endm\nm\n.endr\n", ".macro m\nm\n" + strings.Repeat(strings.Repeat("1 ", 800)+"\n", 20) + ".endm\nm\n",
	} {
		checkExpandedNot(t, s)
	}
	// A macro whose name is gone when it comes to it does not.
	checkExpanded(t, ".macro m a\na\n.endm\nm m\n", "\n")
	checkExpanded(t, ".macro m a\na\n.endm\nm m m m\n", "\n")
	checkExpanded(t, ".macro m\n.macro m\n.endm\nm\n.endm\nm\nm\n", "")
	// What names itself is not gone through where it stands in what is there no times.
	checkExpanded(t, ".macro m\n.rept 0\nm\n.endr\nhalt\n.endm\nm\n", "halt\n")
	checkExpanded(t, ".macro m n\nhalt\n.rept n\nm 0\n.endr\n.endm\nm 2\n", "halt\nhalt\nhalt\n")
}

// What begins may stand in what begins as deep as there are lines.
func TestBlocksWithinBlocksDeep(t *testing.T) {
	for _, count := range []int{1, 100, 499, 500, 501, 10000} {
		nested := func(begin, end string) [][]impl.Token {
			return slices.Concat(slices.Repeat(rowsOf(t, begin), count), rowsOf(t, "halt\n"), slices.Repeat(rowsOf(t, end), count))
		}
		checkExpand(t, nested(".macro m\n", ".endm\n"), 1, nil)
		checkExpandNot(t, nested(".macro m\n", ".endm\n")[1:], 1000)
		checkExpand(t, nested(".rept 0\n", ".endr\n"), 1, nil)
		checkExpandNot(t, nested(".rept 0\n", ".endr\n")[1:], 1000)
		// Each one uses two, and the line within one.
		often := nested(".rept 1\n", ".endr\n")
		if count < 500 {
			checkExpand(t, often, 2*count+1, rowsOf(t, "halt\n"))
			checkExpandNot(t, often, 2*count)
		} else {
			checkExpandNot(t, often, 1000)
		}
	}
}

func TestExpandTextWrittenOut(t *testing.T) {
	for s, want := range map[string]string{
		"":                        "",
		"\n":                      "\n",
		"\n\n":                    "\n\n",
		" ":                       "\n",
		" \n\t":                   "\n\n",
		";":                       "\n",
		"; no\n;":                 "\n\n",
		"halt":                    "halt\n",
		"halt\n":                  "halt\n",
		"halt\n\n":                "halt\n\n",
		"\nhalt":                  "\nhalt\n",
		"halt\n ":                 "halt\n\n",
		"a:\n\n; no":              "a :\n\n\n",
		"  mov\t#5,r0 ; five":     "mov # 5 , r0\n",
		"mov(r0)+,@-(sp)":         "mov ( r0 ) + , @ - ( sp )\n",
		"1a\n..b":                 "1 a\n. .b\n",
		"mov mov\n: : :\n177777":  "mov mov\n: : :\n177777\n",
		".macro m;\n;\n.endm;\nm": "\n",
		".rept 2\n;\n.endr":       "\n\n",
		"m;\\n.macro m":           "m\n",
	} {
		checkExpanded(t, s, want)
	}
}

func TestTextsWithLinesThatAreNotRead(t *testing.T) {
	for _, wrong := range []string{"A", "8", "00", "sevenle", ".sevenle", "$", "\x00", "\r", "\xff", "a\r", "200000", ".macro M", ".rept 8", ".rept 00", ".rept 200000", "mov r0 , \"", strings.Repeat("1 ", 801), strings.Repeat(",", 801), "\u00a0"} {
		for _, around := range []string{"%s", "%s\n", "halt\n%s", "%s\nhalt\n", "\n\n%s\n\n", ".macro m\n%s\n.endm\n", ".rept 0\n%s\n.endr\n", ".macro m\n.endm\nm\n%s", "%s\n.endm\n"} {
			s := fmt.Sprintf(around, wrong)
			if got, ok := impl.ExpandText(s); ok || got != "" {
				t.Errorf("ExpandText of %.100q: %.100q, %v", s, got, ok)
			}
		}
		checkExpanded(t, "halt ;"+wrong, "halt\n")
	}
	full := strings.Repeat("1 ", 800)
	checkExpanded(t, full, strings.TrimSpace(full)+"\n")
}

func TestTextsOfUpTo200Lines(t *testing.T) {
	for _, line := range []string{"", "halt", ";", "m 1"} {
		for _, count := range []int{1, 2, 199, 200} {
			want := strings.Repeat(impl.LineOf(lexed(t, line))+"\n", count)
			checkExpanded(t, strings.Repeat(line+"\n", count), want)
			if line != "" {
				checkExpanded(t, strings.Repeat(line+"\n", count-1)+line, want)
			}
		}
		for _, count := range []int{201, 202, 400, 5000} {
			checkExpandedNot(t, strings.Repeat(line+"\n", count))
			checkExpandedNot(t, strings.Repeat(line+"\n", count-1)+"halt")
			checkExpandedNot(t, strings.Repeat(line+"\n", count-1)+" ")
		}
		// Behind the last byte 10 stands no line, if nothing stands there.
		checkExpandedNot(t, strings.Repeat(line+"\n", 200)+";")
	}
	// Lines that do not stay are lines of the text, too.
	const none = ".macro m\n.endm\n"
	checkExpanded(t, strings.Repeat(none, 100), "")
	for _, s := range []string{strings.Repeat(none, 100) + "halt", strings.Repeat(none, 101), ".rept 0\n" + strings.Repeat("halt\n", 199) + ".endr"} {
		if got, ok := impl.ExpandText(s); ok || got != "" {
			t.Errorf("ExpandText of %d lines: %.100q, %v", strings.Count(s, "\n"), got, ok)
		}
	}
	checkExpanded(t, ".rept 0\n"+strings.Repeat("halt\n", 198)+".endr", "")
	checkExpanded(t, ".rept 1\n"+strings.Repeat("halt\n", 198)+".endr\n", strings.Repeat("halt\n", 198))
	checkExpandedNot(t, ".rept 2\n"+strings.Repeat("halt\n", 198)+".endr\n")
	checkExpandNot(t, rowsOf(t, strings.Repeat(none, 100)+strings.Repeat("halt\n", 201)), 1000)
	checkExpand(t, rowsOf(t, strings.Repeat(none, 101)), 101, nil)
}

// A toldMac and a told are what the document tells of lines that are gone through, apart from what the program does: on
// texts, by the place where what begins ends.
type toldMac struct {
	params []string
	body   [][]string
}

type told struct {
	fuel int
	macs map[string]toldMac
	stay [][]string
}

// endOf is below 0 of what does not end.
func endOf(l [][]string, at int) int {
	word := l[at][0]
	deep := 0
	for i := at; i < len(l); i++ {
		switch {
		case len(l[i]) > 0 && l[i][0] == word:
			deep++
		case len(l[i]) == 1 && l[i][0] == ".end"+word[1:2]:
			deep--
			if deep == 0 {
				return i
			}
		}
	}
	return -1
}

func (w *told) burns() bool {
	w.fuel--
	return w.fuel >= 0
}

func (w *told) pass(l [][]string) bool {
	for at := 0; at < len(l); at++ {
		line := append([]string{""}, l[at]...)
		if !w.burns() || len(l[at]) > 800 {
			return false
		}
		word := line[min(1, len(line)-1)]
		switch word {
		case ".macro", ".rept":
			end := endOf(l, at)
			if end < 0 || !w.begun(line[1:], l[at+1:end]) {
				return false
			}
			at = end
			continue
		case ".endm", ".endr":
			return false
		}
		m, ok := w.macs[word]
		if !ok {
			w.stay = append(w.stay, l[at])
		}
		if len(w.stay) > 200 || ok && !w.pass(m.lines(cutAtCommas(line[2:]))) {
			return false
		}
	}
	return true
}

func (w *told) begun(head []string, body [][]string) bool {
	if head[0] == ".rept" {
		if len(head) != 2 {
			return false
		}
		n, err := strconv.ParseUint(head[1], 8, 16)
		for range n {
			if !w.pass(body) || !w.burns() {
				return false
			}
		}
		return err == nil
	}
	if len(head) < 2 || !wantName(head[1]) {
		return false
	}
	var params []string
	for _, part := range cutAtCommas(head[2:]) {
		if !nameTold(part) || slices.Contains(params, part[0]) {
			return false
		}
		params = append(params, part[0])
	}
	w.macs[head[1]] = toldMac{params, body}
	return len(params) <= 4
}

func (m toldMac) lines(args [][]string) [][]string {
	var l [][]string
	for _, line := range m.body {
		var made []string
		for _, z := range line {
			at := slices.Index(m.params, z)
			if at < 0 {
				made = append(made, z)
			} else if at < len(args) {
				made = append(made, args[at]...)
			}
		}
		l = append(l, made)
	}
	return l
}

// wantExpanded has how much fuel is used, too.
func wantExpanded(l []string) (string, int, bool) {
	w := told{fuel: 1000, macs: map[string]toldMac{}}
	var rows [][]string
	for _, line := range l {
		rows = append(rows, strings.Fields(line))
	}
	if !w.pass(rows) {
		return "", 0, false
	}
	s := ""
	for _, line := range w.stay {
		s += strings.Join(line, " ") + "\n"
	}
	return s, 1000 - w.fuel, true
}

// anyRows are lines of which most are right: what begins in them ends.
func anyRows(next func(n int) int, deep int) []string {
	names := strings.Fields("m k n a b")
	name := func() string { return names[next(len(names))] }
	heads := []string{"", " a", " a , b", " b , a , n", " n , m", " a , b , k , m"}
	args := []string{"", " 1", " a , b", " 1 , 2", " , 3", " m", " k 1 , n", " .macro", " 1 2", " .rept", " .endr"}
	stays := []string{"halt", "", ". word a , b", ".word n , m , k", "a", "b 1", "1 a", ".rept1 a"}
	var l []string
	for range 1 + next(4) {
		switch kind := next(9); {
		case kind < 2 && deep > 0:
			l = slices.Concat(l, []string{".macro " + name() + heads[next(len(heads))]}, anyRows(next, deep-1), []string{".endm"})
		case kind < 4 && deep > 0:
			often := []string{"0", "1", "2", "3", "a", "n"}[next(6)]
			l = slices.Concat(l, []string{".rept " + often}, anyRows(next, deep-1), []string{".endr"})
		case kind < 7:
			l = append(l, name()+args[next(len(args))])
		default:
			l = append(l, stays[next(len(stays))])
		}
	}
	return l
}

// spoil drops a line, doubles it, puts another one into its place, or turns two over.
func spoil(next func(n int) int, l []string) []string {
	at := next(len(l))
	switch next(4) {
	case 0:
		return slices.Delete(l, at, at+1)
	case 1:
		return slices.Insert(l, at, l[at])
	case 2:
		l[at] = []string{".endm", ".endr", ".endm 1", ".endr a", ".rept", ".rept 2", ".macro", ".macro m", ".macro m a , a", ".macro 1", "m", ""}[next(12)]
	case 3:
		other := next(len(l))
		l[at], l[other] = l[other], l[at]
	}
	return l
}

func TestManyLinesExpanded(t *testing.T) {
	next := nextOf(14)
	right, wrong, used := 0, 0, 0
	for range 20000 {
		l := slices.Concat(anyRows(next, 3), anyRows(next, 3), anyRows(next, 2))
		for range next(3) {
			l = spoil(next, l)
		}
		s := strings.Join(l, "\n") + "\n"
		want, fuel, ok := wantExpanded(l)
		if !ok {
			wrong++
			checkExpandNot(t, rowsOf(t, s), 1000)
			continue
		}
		right++
		used = max(used, fuel)
		checkUses(t, s, fuel, want)
		if len(l) <= 200 {
			checkExpanded(t, s, want)
		}
		if t.Failed() {
			return
		}
	}
	if right < 3000 || wrong < 3000 || used < 100 {
		t.Error("right and wrong:", right, wrong, "most fuel:", used)
	}
}

func roomsOfRows(rows [][]impl.Token) []room {
	var l []room
	add := func(from uintptr, size, each uintptr) {
		if size > 0 {
			l = append(l, room{from, from + size*each})
		}
	}
	add(uintptr(unsafe.Pointer(unsafe.SliceData(rows))), uintptr(cap(rows)), unsafe.Sizeof([]impl.Token{}))
	for _, row := range rows {
		add(uintptr(unsafe.Pointer(unsafe.SliceData(row))), uintptr(cap(row)), unsafe.Sizeof(impl.Token{}))
	}
	return l
}

func checkTextsApart(t *testing.T, answer [][]impl.Token, args ...[]impl.Token) {
	t.Helper()
	for _, row := range answer {
		for _, z := range row {
			for _, arg := range args {
				for _, y := range arg {
					if shareText(z.S, y.S) {
						t.Errorf("%q shares an argument's memory", z.S)
						return
					}
				}
			}
		}
	}
}

func spoilRows(rows [][]impl.Token) {
	for _, row := range rows {
		row = row[:cap(row)]
		for i := range row {
			row[i] = impl.Token{K: 9, N: 9, S: "9"}
		}
	}
	clear(rows[:cap(rows)])
}

// roomyRows has room behind each list, with something in it.
func roomyRows(rows [][]impl.Token) [][]impl.Token {
	behind := impl.Token{K: impl.KName, S: "behind"}
	l := make([][]impl.Token, 0, len(rows)+2)
	for _, row := range rows {
		l = append(l, append(append(make([]impl.Token, 0, len(row)+2), row...), behind, behind)[:len(row)])
	}
	return append(l, []impl.Token{behind}, []impl.Token{behind})[:len(rows)]
}

func checkRoomyRows(t *testing.T, rows, was [][]impl.Token) {
	t.Helper()
	behind := []impl.Token{{K: impl.KName, S: "behind"}}
	if !sameRows(rows, was) {
		t.Errorf("an argument is written: %v, was %v", rows, was)
	}
	for _, row := range rows {
		if !slices.Equal(row[len(row):len(row)+2], append(behind, behind...)) {
			t.Error("what lies behind a line is written:", row[:len(row)+2])
		}
	}
	if !sameRows(rows[len(rows):len(rows)+2], [][]impl.Token{behind, behind}) {
		t.Error("what lies behind the lines is written")
	}
}

func TestSubstIsNewMemory(t *testing.T) {
	for _, line := range []string{"", "mov a , b", "a", "a a b", "sixlet c"} {
		was := [][]impl.Token{lexed(t, line)}
		wasArgs := [][]impl.Token{lexed(t, "# sixlet ( r0 )"), lexed(t, "a b"), {}}
		rows, args := roomyRows(was), roomyRows(wasArgs)
		params := []string{"a", "b", "c", "behind"}[:3]
		one, two := impl.Subst(rows[0], params, args), impl.Subst(rows[0], params, args)
		checkRoomsApart(t, slices.Concat(roomsOfRows(rows), roomsOfRows(args), roomsOfRows([][]impl.Token{one}), roomsOfRows([][]impl.Token{two})))
		checkTextsApart(t, [][]impl.Token{one}, slices.Concat(rows, args)...)
		want := slices.Clone(two)
		spoilRows([][]impl.Token{one})
		if three := impl.Subst(rows[0], params, args); !slices.Equal(two, want) || !slices.Equal(three, want) {
			t.Errorf("answers share memory: %v, %v", two, three)
		}
		checkRoomyRows(t, rows, was)
		checkRoomyRows(t, args, wasArgs)
		if !slices.Equal(params[:4], []string{"a", "b", "c", "behind"}) {
			t.Error("params are written:", params[:4])
		}
	}
	// What lies behind a list is not read.
	args := [][]impl.Token{{numToken(1), numToken(2)}, {numToken(3)}}
	checkSubst(t, lexed(t, "a b")[:1], []string{"b", "a"}[:1], args, nameToken("a"))
	checkSubst(t, lexed(t, "a b"), []string{"a", "b"}, [][]impl.Token{args[0][:1], args[1]}[:1], numToken(1))
}

func TestArgsAreNewMemory(t *testing.T) {
	for _, line := range []string{"", ",", "sixlet", "a , b", ", , sixlet", "1 2 3 , 4 , 5 6 7 10 11 , , a b c"} {
		was := [][]impl.Token{lexed(t, line)}
		rows := roomyRows(was)
		one, two := impl.ArgsOf(rows[0]), impl.ArgsOf(rows[0])
		checkRoomsApart(t, slices.Concat(roomsOfRows(rows), roomsOfRows(one), roomsOfRows(two)))
		checkTextsApart(t, one, rows...)
		want := copyRows(two)
		spoilRows(one)
		if three := impl.ArgsOf(rows[0]); !sameRows(two, want) || !sameRows(three, want) {
			t.Errorf("answers share memory: %v, %v", two, three)
		}
		checkRoomyRows(t, rows, was)
	}
	checkArgs(t, lexed(t, "a , b")[:2], []impl.Token{nameToken("a")}, nil)
}

func TestExpandedLinesAreNewMemory(t *testing.T) {
	for _, s := range []string{
		"halt\nmov sixlet , b\n\nhalt\n",
		".macro sixlet a\nmov a , a\nmov sixlet , sixlet\n.endm\nsixlet five\nsixlet # sixlet\nsixlet\n",
		".rept 3\nmov sixlet , b\n.rept 2\nclr sixlet\n.endr\n.endr\n",
		".macro out n\n.macro in m\n.word m , n , n\n.endm\nin sixlet\n.endm\n.rept 2\nout five\nin six\nin six\n.endr\n",
		".macro m\n.endm\nm\n",
	} {
		was := rowsOf(t, s)
		rows := roomyRows(was)
		one, ok := impl.Expand(rows, 1000)
		two, again := impl.Expand(rows, 1000)
		if !ok || !again {
			t.Errorf("Expand of %q", s)
		}
		checkRoomsApart(t, slices.Concat(roomsOfRows(rows), roomsOfRows(one), roomsOfRows(two)))
		checkTextsApart(t, one, rows...)
		want := copyRows(two)
		spoilRows(one)
		if three, _ := impl.Expand(rows, 1000); !sameRows(two, want) || !sameRows(three, want) {
			t.Errorf("answers share memory: %v, %v", two, three)
		}
		impl.Expand(rows, 2)
		checkRoomyRows(t, rows, was)
	}
	s := strings.Repeat("sixlet", 1)
	if got, _ := impl.ExpandText(s); got != "sixlet\n" || shareText(got, s) {
		t.Errorf("%q shares the text's memory", got)
	}
	// What lies behind the lines is not read.
	rows := rowsOf(t, "halt\n.macro m\n")
	checkExpand(t, rows[:1], 1, rows[:1])
	checkExpand(t, [][]impl.Token{rows[1][:0]}, 1, make([][]impl.Token, 1))
}

// Nothing is kept from one call to the next: no macro, no line and no fuel.
func TestWhatIsExpandedHangsOnNothingAhead(t *testing.T) {
	for range 3 {
		checkExpanded(t, ".macro m\nhalt\n.endm\nm\n", "halt\n")
		checkExpanded(t, "m\n", "m\n")
		checkExpandedNot(t, ".macro m\nhalt\n.endm\n.rept 2\n")
		checkExpanded(t, "m\n", "m\n")
		checkExpandedNot(t, ".macro m\nhalt\nm\n.endm\nm\n")
		checkExpanded(t, "", "")
		checkExpanded(t, strings.Repeat("halt\n", 200), strings.Repeat("halt\n", 200))
	}
}

// What a macro makes comes out of an iterator: a function of the program answers one, which is ranged over.
func TestWhatAMacroMakesComesOutOfAnIterator(t *testing.T) {
	info := &types.Info{Types: map[ast.Expr]types.TypeAndValue{}, Defs: map[*ast.Ident]types.Object{}}
	f := typedFiles(t, info)["l14_macro.go"]
	if f == nil {
		t.Fatal("no l14_macro.go")
	}
	made, ranged := false, false
	ast.Inspect(f, func(n ast.Node) bool {
		switch x := n.(type) {
		case *ast.RangeStmt:
			_, ok := info.Types[x.X].Type.Underlying().(*types.Signature)
			ranged = ranged || ok
		case *ast.FuncDecl:
			results := info.Defs[x.Name].Type().(*types.Signature).Results()
			for i := range results.Len() {
				_, ok := results.At(i).Type().Underlying().(*types.Signature)
				made = made || ok
			}
		}
		return true
	})
	if !made || !ranged {
		t.Error("an iterator is made and ranged over:", made, ranged)
	}
}
