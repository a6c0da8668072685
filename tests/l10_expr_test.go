package tests

import (
	"fmt"
	"go/ast"
	"math"
	"slices"
	"strings"
	"testing"
	"unsafe"

	"loop.example/g00329/impl"
)

// pairSigns are those of two as the document tells them, apart from what the program has.
var pairSigns = map[int]string{impl.XAdd: "+", impl.XSub: "-", impl.XMul: "*", impl.XDiv: "/", impl.XAnd: "&", impl.XOr: "|"}

var pairKinds = []int{impl.XAdd, impl.XSub, impl.XMul, impl.XDiv, impl.XAnd, impl.XOr}

var hereExpr = impl.Expr{K: impl.XHere}

func numExpr(n int) impl.Expr { return impl.Expr{K: impl.XNum, N: n} }

func symExpr(s string) impl.Expr { return impl.Expr{K: impl.XSym, S: s} }

func negExpr(e impl.Expr) impl.Expr { return impl.Expr{K: impl.XNeg, L: []impl.Expr{e}} }

func pairExpr(k int, a, b impl.Expr) impl.Expr { return impl.Expr{K: k, L: []impl.Expr{a, b}} }

func sectExpr(n int) impl.Expr { return impl.Expr{K: impl.XSect, N: n} }

func globExpr(s string) impl.Expr { return impl.Expr{K: impl.XGlob, S: s} }

// copyExpr shares no list with e.
func copyExpr(e impl.Expr) impl.Expr {
	l := make([]impl.Expr, len(e.L))
	for i, x := range e.L {
		l[i] = copyExpr(x)
	}
	e.L = l
	return e
}

// sameTerm is what SameExpr is held against: of terms that end.
func sameTerm(a, b impl.Expr) bool {
	return a.K == b.K && a.N == b.N && a.S == b.S && slices.EqualFunc(a.L, b.L, sameTerm)
}

// wantText is written apart from the program: of what is plain.
func wantText(e impl.Expr) string {
	switch e.K {
	case impl.XNum:
		return fmt.Sprintf("%o", e.N)
	case impl.XSym:
		return e.S
	case impl.XHere:
		return "."
	case impl.XNeg:
		return "- " + wantText(e.L[0])
	}
	return "< " + wantText(e.L[0]) + " " + pairSigns[e.K] + " " + wantText(e.L[1]) + " >"
}

// A wrapper lays a term into another one, one deeper.
type wrapper struct {
	name string
	wrap func(impl.Expr) impl.Expr
}

// wrappers are all ways of laying a term into another one: below 0, and of those of two first, second, and both.
func wrappers() []wrapper {
	l := []wrapper{{"neg", negExpr}}
	for _, k := range pairKinds {
		l = append(l,
			wrapper{pairSigns[k] + " first", func(e impl.Expr) impl.Expr { return pairExpr(k, e, numExpr(1)) }},
			wrapper{pairSigns[k] + " second", func(e impl.Expr) impl.Expr { return pairExpr(k, symExpr("b"), e) }},
			wrapper{pairSigns[k] + " both", func(e impl.Expr) impl.Expr { return pairExpr(k, e, copyExpr(e)) }})
	}
	return l
}

// within lays e so often into others by w.
func within(e impl.Expr, w wrapper, times int) impl.Expr {
	for range times {
		e = w.wrap(e)
	}
	return e
}

func plainLeaves() []impl.Expr {
	return []impl.Expr{
		numExpr(0), numExpr(1), numExpr(8), numExpr(32768), numExpr(65535),
		symExpr("a"), symExpr("z"), symExpr("sixlet"), symExpr("a00000"), symExpr("r6"), symExpr("word"),
		hereExpr,
	}
}

func otherLeaves() []impl.Expr {
	return []impl.Expr{sectExpr(0), sectExpr(1), sectExpr(9), globExpr("a"), globExpr("sixlet"), globExpr("a00000"), globExpr("r6")}
}

func allLeaves() []impl.Expr { return append(plainLeaves(), otherLeaves()...) }

func checkExprOk(t *testing.T, e impl.Expr, ok, plain bool) {
	t.Helper()
	if got := impl.ExprOk(e); got != ok {
		t.Errorf("ExprOk of %.200s: %v", fmt.Sprint(e), got)
	}
	if got := impl.PlainOk(e); got != plain {
		t.Errorf("PlainOk of %.200s: %v", fmt.Sprint(e), got)
	}
	if plain {
		return
	}
	if got := impl.ExprText(e); got != "" {
		t.Errorf("ExprText of %.200s: %q", fmt.Sprint(e), got)
	}
}

func checkWrongExpr(t *testing.T, e impl.Expr) {
	t.Helper()
	checkExprOk(t, e, false, false)
}

func checkParse(t *testing.T, s string, want impl.Expr) {
	t.Helper()
	if e, ok := impl.ParseExpr(s); !ok || !sameTerm(e, want) {
		t.Errorf("ParseExpr of %.200q: %v, %v, want %v", s, e, ok, want)
	}
}

func checkNoParse(t *testing.T, s string) {
	t.Helper()
	if e, ok := impl.ParseExpr(s); ok || !sameTerm(e, impl.Expr{}) {
		t.Errorf("ParseExpr of %.200q: %v, %v", s, e, ok)
	}
}

// checkPlain wants that a term that is plain has its text, and comes back of it.
func checkPlain(t *testing.T, e impl.Expr) {
	t.Helper()
	checkExprOk(t, e, true, true)
	s := impl.ExprText(e)
	if s != wantText(e) {
		t.Errorf("ExprText of %v: %q, want %q", e, s, wantText(e))
	}
	checkParse(t, s, e)
	back, _ := impl.ParseExpr(s)
	if !impl.SameExpr(back, e) || !impl.SameExpr(e, back) {
		t.Errorf("SameExpr of %v and what comes back of %q", e, s)
	}
}

func TestExprConstants(t *testing.T) {
	if impl.XNum != 1 || impl.XSym != 2 || impl.XHere != 3 || impl.XNeg != 4 || impl.XAdd != 5 || impl.XSub != 6 ||
		impl.XMul != 7 || impl.XDiv != 8 || impl.XAnd != 9 || impl.XOr != 10 || impl.XSect != 11 || impl.XGlob != 12 {
		t.Error("kinds")
	}
}

func TestEachKindOfTerm(t *testing.T) {
	for _, e := range plainLeaves() {
		checkPlain(t, e)
		for _, w := range wrappers() {
			checkPlain(t, w.wrap(e))
		}
	}
	for _, e := range otherLeaves() {
		checkExprOk(t, e, true, false)
		for _, w := range wrappers() {
			checkExprOk(t, w.wrap(e), true, false)
		}
	}
	// An empty list and none are the same.
	checkPlain(t, impl.Expr{K: impl.XNum, N: 1, L: []impl.Expr{}})
	checkPlain(t, impl.Expr{K: impl.XHere, L: make([]impl.Expr, 0, 3)})
	checkPlain(t, negExpr(impl.Expr{K: impl.XSym, S: "a", L: []impl.Expr{}}))
}

func TestTermsOfNoKind(t *testing.T) {
	a := symExpr("a")
	for _, k := range []int{0, -1, -2, -3, -11, -12, 13, 14, 256 + 1, 256 + 3, 65536 + 1, 1<<32 + 1, 1<<32 + 3, 1<<32 + 5, math.MinInt, math.MaxInt} {
		for _, e := range []impl.Expr{{}, {N: 1}, {S: "a"}, {L: []impl.Expr{a}}, {L: []impl.Expr{a, a}}, {L: []impl.Expr{a, a, a}}, {N: 1, S: "a", L: []impl.Expr{a}}} {
			e.K = k
			checkWrongExpr(t, e)
			checkWrongExpr(t, negExpr(e))
		}
	}
}

func TestTermsWithFieldsThatTheirKindDoesNotName(t *testing.T) {
	numbers := []int{1, -1, 9, 65535, 65536, math.MinInt, math.MaxInt}
	texts := []string{"a", " ", "0", "mov", ".", "+", "\x00", "sevenle"}
	l := allLeaves()
	for _, w := range wrappers() {
		l = append(l, w.wrap(symExpr("a")), w.wrap(sectExpr(0)))
	}
	for _, e := range l {
		if e.K != impl.XNum && e.K != impl.XSect {
			for _, n := range numbers {
				x := e
				x.N = n
				checkWrongExpr(t, x)
			}
		}
		if e.K != impl.XSym && e.K != impl.XGlob {
			for _, s := range texts {
				x := e
				x.S = s
				checkWrongExpr(t, x)
			}
		}
	}
}

func TestTermsThatAreWords(t *testing.T) {
	for n := range 65536 {
		if !impl.ExprOk(numExpr(n)) || !impl.PlainOk(numExpr(n)) {
			t.Error(n)
		}
	}
	for _, n := range []int{0, 1, 7, 8, 32767, 32768, 65534, 65535} {
		checkPlain(t, numExpr(n))
	}
	for _, n := range noWords {
		checkWrongExpr(t, numExpr(n))
		checkWrongExpr(t, negExpr(numExpr(n)))
	}
}

func TestTermsThatAreNames(t *testing.T) {
	for _, s := range []string{"a", "z", "a0", "z9", "ab", "sixlet", "a12345", "zzzzzz", "r6", "r7", "r00", "mova", "over", "main"} {
		checkPlain(t, symExpr(s))
		checkExprOk(t, globExpr(s), true, false)
	}
	wrong := []string{
		"", " ", "sevenle", "a123456", "aaaaaaa", strings.Repeat("a", 1000), "A", "aB", "0", "1", "0a", "1a", ".", ".a", "a.", "-a", "a b", " a", "a ", "a\n", "a;", "a_", "_", "$", "\x00", "a\x00", "\xff", "a\xff", "\u00e4", "a\u00e4", "+", "<", ">",
	}
	for _, s := range append(wrong, keptTexts...) {
		for _, e := range []impl.Expr{symExpr(s), globExpr(s)} {
			checkWrongExpr(t, e)
			for _, w := range wrappers() {
				checkWrongExpr(t, w.wrap(e))
			}
		}
	}
}

func TestTermsThatAreSections(t *testing.T) {
	for n := range 10 {
		checkExprOk(t, sectExpr(n), true, false)
	}
	for _, n := range append([]int{10, 11, 12, 255, 256, 65535}, noWords...) {
		checkWrongExpr(t, sectExpr(n))
		checkWrongExpr(t, negExpr(sectExpr(n)))
	}
}

// Each kind with each number of terms that it does not have.
func TestHowManyTermsLieWithin(t *testing.T) {
	a := symExpr("a")
	for count := range 5 {
		l := slices.Repeat([]impl.Expr{a}, count)
		for _, e := range allLeaves() {
			e.L = l
			checkExprOk(t, e, count == 0, count == 0 && e.K != impl.XSect && e.K != impl.XGlob)
		}
		neg := impl.Expr{K: impl.XNeg, L: l}
		checkExprOk(t, neg, count == 1, count == 1)
		checkExprOk(t, negExpr(neg), count == 1, count == 1)
		for _, k := range pairKinds {
			e := impl.Expr{K: k, L: l}
			checkExprOk(t, e, count == 2, count == 2)
			checkExprOk(t, pairExpr(k, a, e), count == 2, count == 2)
			checkExprOk(t, pairExpr(k, e, a), count == 2, count == 2)
		}
	}
	many := slices.Repeat([]impl.Expr{a}, 100000)
	for k := -1; k < 15; k++ {
		checkWrongExpr(t, impl.Expr{K: k, L: many})
	}
}

// What lies behind a list's length is not read.
func TestTermsBehindAListAreNotRead(t *testing.T) {
	room := []impl.Expr{symExpr("a"), numExpr(1), {}, symExpr("mov")}
	checkPlain(t, impl.Expr{K: impl.XHere, L: room[:0]})
	checkPlain(t, impl.Expr{K: impl.XNeg, L: room[:1]})
	checkPlain(t, impl.Expr{K: impl.XAdd, L: room[:2]})
	checkWrongExpr(t, impl.Expr{K: impl.XNeg, L: room[:0]})
	checkWrongExpr(t, impl.Expr{K: impl.XAdd, L: room[:1]})
}

func wrongTerms() []impl.Expr {
	a := symExpr("a")
	return []impl.Expr{
		{}, {K: 13}, {K: -1}, numExpr(-1), numExpr(65536), symExpr(""), symExpr("mov"), symExpr("sevenle"), globExpr(""), globExpr("r0"), sectExpr(-1), sectExpr(10),
		{K: impl.XHere, N: 1}, {K: impl.XHere, S: "a"}, {K: impl.XHere, L: []impl.Expr{a}}, {K: impl.XNum, S: "a"}, {K: impl.XSym, N: 1, S: "a"}, {K: impl.XNeg}, {K: impl.XNeg, L: []impl.Expr{a, a}},
		{K: impl.XAdd}, {K: impl.XAdd, L: []impl.Expr{a}}, {K: impl.XOr, L: []impl.Expr{a, a, a}}, {K: impl.XMul, N: 1, L: []impl.Expr{a, a}}, {K: impl.XDiv, S: "/", L: []impl.Expr{a, a}},
	}
}

func TestAWrongTermWithinARightOne(t *testing.T) {
	for _, e := range wrongTerms() {
		checkWrongExpr(t, e)
		for _, w := range wrappers() {
			for times := 1; times <= 6; times++ {
				checkWrongExpr(t, within(e, w, times))
			}
		}
	}
}

func TestSixDeepAndSeven(t *testing.T) {
	for _, w := range wrappers() {
		for _, e := range plainLeaves() {
			for times := range 6 {
				checkPlain(t, within(e, w, times))
			}
			for _, times := range []int{6, 7, 8} {
				deep := within(e, w, times)
				checkWrongExpr(t, deep)
				checkNoParse(t, wantText(deep))
			}
		}
		for _, e := range otherLeaves() {
			for times := range 6 {
				checkExprOk(t, within(e, w, times), true, false)
			}
			checkWrongExpr(t, within(e, w, 6))
		}
	}
}

// Any two ways of laying within count alike, wherever the one stands in the other.
func TestSixDeepByTwoWays(t *testing.T) {
	for _, inner := range wrappers() {
		for _, outer := range wrappers() {
			for times := range 6 {
				checkPlain(t, within(within(hereExpr, inner, times), outer, 5-times))
			}
			for times := range 7 {
				deep := within(within(hereExpr, inner, times), outer, 6-times)
				checkWrongExpr(t, deep)
				checkNoParse(t, wantText(deep))
			}
		}
	}
}

// A list may hold itself, and be shared so often that going through all of it would not end.
func TestTermsThatDoNotEnd(t *testing.T) {
	one := make([]impl.Expr, 1)
	one[0] = impl.Expr{K: impl.XNeg, L: one}
	checkWrongEndless(t, one[0])
	for _, k := range pairKinds {
		two := make([]impl.Expr, 2)
		two[0] = impl.Expr{K: k, L: two}
		two[1] = impl.Expr{K: k, L: two}
		checkWrongEndless(t, two[0])
		checkWrongEndless(t, negExpr(two[1]))
	}
	checkWrongEndless(t, doubled(200, symExpr("a")))
	checkWrongEndless(t, chain(1000000, symExpr("a")))
}

// checkWrongEndless tells no term: its text would not end.
func checkWrongEndless(t *testing.T, e impl.Expr) {
	t.Helper()
	if impl.ExprOk(e) || impl.PlainOk(e) || impl.ExprText(e) != "" {
		t.Error("right")
	}
	if !impl.SameExpr(e, e) || impl.SameExpr(e, hereExpr) || impl.SameExpr(hereExpr, e) || impl.SameExpr(e, negExpr(hereExpr)) {
		t.Error("same")
	}
}

func TestPlainAtEachDepth(t *testing.T) {
	for _, e := range otherLeaves() {
		for _, w := range wrappers() {
			for times := range 6 {
				x := within(e, w, times)
				checkExprOk(t, x, true, false)
				if times < 5 {
					checkExprOk(t, pairExpr(impl.XSub, x, symExpr("a")), true, false)
					checkExprOk(t, pairExpr(impl.XSub, symExpr("a"), x), true, false)
				}
			}
		}
	}
	// All of a full tree is plain but for one leaf, wherever that stands.
	for place := range 32 {
		for _, e := range []impl.Expr{sectExpr(3), globExpr("g")} {
			n := 0
			x := fullTree(6, func() impl.Expr {
				n++
				if n-1 == place {
					return e
				}
				return numExpr(n)
			})
			checkExprOk(t, x, true, false)
		}
	}
}

// fullTree has a leaf of next at each end, all as deep.
func fullTree(deep int, next func() impl.Expr) impl.Expr {
	if deep == 1 {
		return next()
	}
	a := fullTree(deep-1, next)
	return pairExpr(pairKinds[deep%len(pairKinds)], a, fullTree(deep-1, next))
}

func TestFullTrees(t *testing.T) {
	for deep := 1; deep <= 6; deep++ {
		n := 0
		e := fullTree(deep, func() impl.Expr { n++; return numExpr(n) })
		checkPlain(t, e)
		if n != 1<<(deep-1) {
			t.Error("leaves:", n)
		}
		checkPlain(t, fullTree(deep, func() impl.Expr { return symExpr("sixlet") }))
	}
	e := fullTree(7, func() impl.Expr { return hereExpr })
	checkWrongExpr(t, e)
	checkNoParse(t, wantText(e))
}

func TestExprTextWrittenOut(t *testing.T) {
	a, b, one := symExpr("a"), symExpr("b"), numExpr(1)
	for s, e := range map[string]impl.Expr{
		"0":                             numExpr(0),
		"10":                            numExpr(8),
		"177777":                        numExpr(65535),
		"a":                             a,
		"sixlet":                        symExpr("sixlet"),
		".":                             hereExpr,
		"- a":                           negExpr(a),
		"- 1":                           negExpr(one),
		"- .":                           negExpr(hereExpr),
		"- - - a":                       negExpr(negExpr(negExpr(a))),
		"< a + b >":                     pairExpr(impl.XAdd, a, b),
		"< b + a >":                     pairExpr(impl.XAdd, b, a),
		"< a - b >":                     pairExpr(impl.XSub, a, b),
		"< a * b >":                     pairExpr(impl.XMul, a, b),
		"< a / b >":                     pairExpr(impl.XDiv, a, b),
		"< a & b >":                     pairExpr(impl.XAnd, a, b),
		"< a | b >":                     pairExpr(impl.XOr, a, b),
		"< . + . >":                     pairExpr(impl.XAdd, hereExpr, hereExpr),
		"- < a - 1 >":                   negExpr(pairExpr(impl.XSub, a, one)),
		"< - a - 1 >":                   pairExpr(impl.XSub, negExpr(a), one),
		"< a - - 1 >":                   pairExpr(impl.XSub, a, negExpr(one)),
		"< < a - 1 > - b >":             pairExpr(impl.XSub, pairExpr(impl.XSub, a, one), b),
		"< a - < 1 - b > >":             pairExpr(impl.XSub, a, pairExpr(impl.XSub, one, b)),
		"< < a * b > / < b & 1 > >":     pairExpr(impl.XDiv, pairExpr(impl.XMul, a, b), pairExpr(impl.XAnd, b, one)),
		"< - < a | . > + - < . | b > >": pairExpr(impl.XAdd, negExpr(pairExpr(impl.XOr, a, hereExpr)), negExpr(pairExpr(impl.XOr, hereExpr, b))),
	} {
		if got := impl.ExprText(e); got != s {
			t.Errorf("ExprText: %q, want %q", got, s)
		}
		checkPlain(t, e)
		checkSpellings(t, s, e)
	}
}

// checkSpellings reads s with other blanks: more, and none, where no two tokens meet by that.
func checkSpellings(t *testing.T, s string, e impl.Expr) {
	t.Helper()
	for _, x := range []string{
		s, " " + s, s + " ", "\t" + s + "\t", strings.ReplaceAll(s, " ", "  "), strings.ReplaceAll(s, " ", "\t"), strings.ReplaceAll(s, " ", " \t "), strings.ReplaceAll(s, " ", ""),
		s + ";", s + " ; a remark", s + ";\x00\xff\n8 00 A", s + ";>", strings.ReplaceAll(s, " ", "") + ";" + s,
	} {
		checkParse(t, x, e)
	}
	for _, x := range []string{";" + s, s + " " + s, s + " a", s + " 0", s + ".", s + ":", s + ">", "<" + s, ">" + s, "<" + s + ">", s + "\n", "\n" + s, s + "\x00", s + "A", "(" + s + ")", "#" + s, "+" + s, s + "+", s + "-", s + "+1", s + ",", s + "=" + s} {
		checkNoParse(t, x)
	}
}

func TestParseExprRefuses(t *testing.T) {
	for _, s := range []string{
		"", " ", "\t \t", ";", "; a", " ;1",
		"-", "--", "- -", "+", "*", "/", "&", "|", "<", ">", "<>", "><", "< >", "<<>>",
		"<a", "a>", "<a>", "<1>", "<.>", "<-a>", "<-1>", "<<a+b>>", "<a+", "<a+b", "a+b", "a+b>", "a-b", "a -1", "<+b>", "<+>", "<a+>", "<a b>", "<a b +>", "<+ a b>", "<a+b+a>", "<a+b>>", "<<a+b>", "<a++b>", "<a+*b>", "<a+b<", ">a+b>", "<a+b>+1", "<a+b>1", "-<a+b", "-+a", "+a", "-*a",
		"<a:b>", "<a=b>", "<a,b>", "<a(b>", "<a)b>", "<a#b>", "<a@b>", "<a.b>", "<a . b>", "<a<b>", "<a>b>", "<a<b>>",
		"a:", "a=1", "a,b", "(a)", "#1", "@a", "a(r0)", "(r0)+",
		"1 2", "a b", "a 1", "1 a", "1a", "<1a+b>", ". .", "..", ". a", "a .", "a.", "1.", ".1",
		".a", "-.a", "<.a+1>", "<1+.a>", ".word", ".mov", "<.word+.>", "..a",
		"mov", "r0", "sp", "pc", "halt", "-mov", "<mov+1>", "<1+mov>", "<a mov b>",
		"01", "00", "0177777", "-01", "<01+1>", "<1+01>", "<a+00>", "8", "9", "18", "200000", "<a+8>", "<a+200000>",
		"sevenle", "<a+sevenle>", "-sevenle", "A", "<a+B>", "<A+b>", "<a^b>", "<a%b>", "<a!b>", "[a+b]", "{a+b}", "a$", "a\n", "<a\n+b>", "\u00e4", "<a+b>\x00", "a\xff",
		strings.Repeat("-", 799) + "a", strings.Repeat("-", 800) + "a", strings.Repeat("<", 800), strings.Repeat("<", 100000), strings.Repeat("-", 100000) + "1", strings.Repeat("a ", 800),
	} {
		checkNoParse(t, s)
	}
	for _, s := range keptTexts {
		for _, x := range []string{s, "-" + s, "<" + s + "+a>", "<a+" + s + ">", "<a " + s + " b>"} {
			checkNoParse(t, x)
		}
	}
}

func TestEveryMarkAsASign(t *testing.T) {
	signs := map[string]int{}
	for k, s := range pairSigns {
		signs[s] = k
	}
	for _, mark := range markTexts {
		for _, s := range []string{"< a " + mark + " b >", "<a" + mark + " b>"} {
			if k, ok := signs[mark]; ok {
				checkParse(t, s, pairExpr(k, symExpr("a"), symExpr("b")))
			} else {
				checkNoParse(t, s)
			}
		}
		if mark != "-" {
			checkNoParse(t, mark+" a")
		}
	}
}

// textsOfAtMost has every plain text of at most so many tokens, of three leaves and three signs.
func textsOfAtMost(tokens int) map[string]impl.Expr {
	bySize := map[int][]impl.Expr{1: {symExpr("a"), numExpr(1), hereExpr}}
	for size := 2; size <= tokens; size++ {
		for _, e := range bySize[size-1] {
			bySize[size] = append(bySize[size], negExpr(e))
		}
		for first := 1; first <= size-4; first++ {
			for _, a := range bySize[first] {
				for _, b := range bySize[size-3-first] {
					for _, k := range []int{impl.XAdd, impl.XSub, impl.XOr} {
						bySize[size] = append(bySize[size], pairExpr(k, a, b))
					}
				}
			}
		}
	}
	texts := map[string]impl.Expr{}
	for _, l := range bySize {
		for _, e := range l {
			texts[wantText(e)] = e
		}
	}
	return texts
}

// Of all lines of at most six tokens just those are read that are the text of a term.
func TestEveryShortTerm(t *testing.T) {
	texts := textsOfAtMost(6)
	tokens := strings.Fields("a 1 . - + | < >")
	lines := []string{""}
	read := 0
	for range 6 {
		var longer []string
		for _, s := range lines {
			for _, z := range tokens {
				longer = append(longer, strings.TrimSpace(s+" "+z))
			}
		}
		lines = longer
		for _, s := range lines {
			if e, ok := texts[s]; ok {
				checkParse(t, s, e)
				checkPlain(t, e)
				read++
			} else {
				checkNoParse(t, s)
			}
		}
	}
	// Of - alone up to five lie within: all of the texts are at most six deep.
	if read != len(texts) || read < 100 {
		t.Error("read:", read, "of", len(texts))
	}
}

// anyTerm is at most so deep; plain ones alone, where that is asked for.
func anyTerm(next func(n int) int, deep int, plain bool) impl.Expr {
	if deep > 1 && next(4) > 0 {
		if next(4) == 0 {
			return negExpr(anyTerm(next, deep-1, plain))
		}
		a := anyTerm(next, deep-1, plain)
		return pairExpr(pairKinds[next(len(pairKinds))], a, anyTerm(next, deep-1, plain))
	}
	if !plain && next(4) == 0 {
		l := otherLeaves()
		return l[next(len(l))]
	}
	if next(3) == 0 {
		return numExpr(next(65536))
	}
	l := plainLeaves()
	return l[next(len(l))]
}

func hasOther(e impl.Expr) bool {
	return e.K == impl.XSect || e.K == impl.XGlob || slices.ContainsFunc(e.L, hasOther)
}

func TestTermsComeBackOfTheirText(t *testing.T) {
	next := nextOf(10)
	for range 5000 {
		checkPlain(t, anyTerm(next, 6, true))
		e := anyTerm(next, 6, false)
		checkExprOk(t, e, true, !hasOther(e))
	}
}

// One token of a text left out, said twice, or made another one: it is read only where it is a term's text again.
func TestTextsWithATokenTurned(t *testing.T) {
	next := nextOf(20)
	for range 300 {
		l := strings.Fields(wantText(anyTerm(next, 6, true)))
		for i := range l {
			checkReadsOnlyTexts(t, slices.Concat(l[:i], l[i+1:]))
			checkReadsOnlyTexts(t, slices.Concat(l[:i], l[i:i+1], l[i:]))
			for _, z := range []string{"a", "1", ".", "-", "<", ">", "+", ":", "mov", ".a"} {
				checkReadsOnlyTexts(t, slices.Concat(l[:i], []string{z}, l[i+1:]))
			}
		}
	}
}

func checkReadsOnlyTexts(t *testing.T, l []string) {
	t.Helper()
	s := strings.Join(l, " ")
	e, ok := impl.ParseExpr(s)
	if ok && (wantText(e) != s || !impl.PlainOk(e)) || !ok && !sameTerm(e, impl.Expr{}) {
		t.Errorf("ParseExpr of %q: %v, %v", s, e, ok)
	}
	if rest, deep := cutTerm(l); ok != (len(rest) == 0 && deep > 0 && deep <= 6) {
		t.Errorf("ParseExpr of %q: %v", s, ok)
	}
}

// cutTerm tells what stands behind the term at the front, and how deep that is, however deep (0: there is none).
func cutTerm(l []string) ([]string, int) {
	if len(l) == 0 {
		return nil, 0
	}
	switch z := l[0]; {
	case z == "-":
		rest, deep := cutTerm(l[1:])
		if deep == 0 {
			return nil, 0
		}
		return rest, deep + 1
	case z == "<":
		rest, first := cutTerm(l[1:])
		if first == 0 || len(rest) == 0 || !strings.Contains("+-*/&|", rest[0]) {
			return nil, 0
		}
		rest, second := cutTerm(rest[1:])
		if second == 0 || len(rest) == 0 || rest[0] != ">" {
			return nil, 0
		}
		return rest[1:], max(first, second) + 1
	case z == "." || !strings.ContainsAny(z, ":=,()+-*/&|#@.<>") && !slices.Contains(keptTexts, z):
		return l[1:], 1
	}
	return nil, 0
}

func checkSame(t *testing.T, a, b impl.Expr, want bool) {
	t.Helper()
	if got := impl.SameExpr(a, b); got != want {
		t.Errorf("SameExpr of %v and %v: %v", a, b, got)
	}
	if got := impl.SameExpr(b, a); got != want {
		t.Errorf("SameExpr of %v and %v: %v", b, a, got)
	}
}

func TestTermsAreTheSame(t *testing.T) {
	var all []impl.Expr
	all = append(all, allLeaves()...)
	all = append(all, wrongTerms()...)
	for _, w := range wrappers() {
		all = append(all, w.wrap(symExpr("a")), w.wrap(w.wrap(numExpr(8))), w.wrap(impl.Expr{}))
	}
	for i, a := range all {
		checkSame(t, a, copyExpr(a), true)
		for j, b := range all {
			checkSame(t, a, b, sameTerm(a, b))
			if i == j && !sameTerm(a, b) {
				t.Error("this test holds terms against each other wrongly")
			}
		}
	}
	checkSame(t, impl.Expr{}, impl.Expr{}, true)
	checkSame(t, impl.Expr{L: []impl.Expr{}}, impl.Expr{}, true)
	checkSame(t, symExpr("a"), globExpr("a"), false)
	checkSame(t, numExpr(1), sectExpr(1), false)
	checkSame(t, numExpr(0), numExpr(65536), false)
	checkSame(t, symExpr("a"), symExpr("ab"), false)
	checkSame(t, pairExpr(impl.XAdd, symExpr("a"), symExpr("b")), pairExpr(impl.XAdd, symExpr("b"), symExpr("a")), false)
}

// turned are all terms that differ from e in one field alone.
func turned(e impl.Expr) []impl.Expr {
	k, n, s, more := e, e, e, e
	k.K++
	n.N++
	s.S += "a"
	more.L = append(slices.Clone(e.L), hereExpr)
	l := []impl.Expr{k, n, s, more}
	if len(e.L) > 0 {
		less := e
		less.L = e.L[:len(e.L)-1]
		none := e
		none.L = nil
		l = append(l, less, none)
	}
	for i := range e.L {
		for _, part := range turned(e.L[i]) {
			x := e
			x.L = slices.Clone(e.L)
			x.L[i] = part
			l = append(l, x)
		}
	}
	return l
}

func TestTermsThatDifferInOneField(t *testing.T) {
	next := nextOf(30)
	for _, w := range wrappers() {
		// Up to six deep, and deeper.
		for times := range 8 {
			if times > 5 && strings.HasSuffix(w.name, "both") {
				continue
			}
			e := within(anyTerm(next, 1, false), w, times)
			checkSame(t, e, copyExpr(e), true)
			for _, x := range turned(e) {
				checkSame(t, e, x, false)
				checkSame(t, copyExpr(e), copyExpr(x), false)
			}
		}
	}
	for range 300 {
		e := anyTerm(next, 4, false)
		for _, x := range turned(e) {
			checkSame(t, e, x, false)
		}
		checkSame(t, e, copyExpr(e), true)
	}
	// A name's bytes count, wherever they stand.
	for i := range 6 {
		b := []byte("sixlet")
		b[i] = 'z'
		checkSame(t, symExpr("sixlet"), symExpr(string(b)), false)
		checkSame(t, negExpr(symExpr("sixlet")), negExpr(symExpr(string(b))), false)
	}
}

// The lists that are held against each other may lie over each other in memory.
func TestSameTermsOfSharedLists(t *testing.T) {
	a, b := symExpr("a"), symExpr("b")
	row := []impl.Expr{a, a, b}
	first, second := impl.Expr{K: impl.XAdd, L: row[:2]}, impl.Expr{K: impl.XAdd, L: row[1:]}
	checkSame(t, first, second, false)
	checkSame(t, impl.Expr{K: impl.XNeg, L: row[:1]}, impl.Expr{K: impl.XNeg, L: row[1:2]}, true)
	checkSame(t, impl.Expr{K: impl.XNeg, L: row[:1]}, impl.Expr{K: impl.XNeg, L: row[:2]}, false)
	// The same two lists are met twice, and another one of them with a third.
	checkSame(t, pairExpr(impl.XAdd, first, first), pairExpr(impl.XAdd, copyExpr(first), copyExpr(first)), true)
	checkSame(t, pairExpr(impl.XAdd, first, first), pairExpr(impl.XAdd, first, second), false)
	checkSame(t, pairExpr(impl.XAdd, second, first), pairExpr(impl.XAdd, first, second), false)
	// One list in two lengths, the longer one ahead and behind.
	other := []impl.Expr{a, a, a}
	for _, sizes := range [][2]int{{1, 3}, {3, 1}, {2, 3}, {3, 2}} {
		checkSame(t, beginnings(row, sizes), beginnings(other, sizes), false)
		checkSame(t, beginnings(row, sizes), beginnings(slices.Clone(row), sizes), true)
	}
}

// beginnings holds two of a row's, of these sizes.
func beginnings(row []impl.Expr, sizes [2]int) impl.Expr {
	return pairExpr(impl.XAdd, impl.Expr{K: impl.XAdd, L: row[:sizes[0]]}, impl.Expr{K: impl.XAdd, L: row[:sizes[1]]})
}

// ring is a term that holds itself, so many of XNeg around.
func ring(size int, last impl.Expr) impl.Expr {
	lists := make([][]impl.Expr, size)
	for i := range lists {
		lists[i] = make([]impl.Expr, 2)
	}
	for i := range lists {
		lists[i][0] = impl.Expr{K: impl.XNeg, L: lists[(i+1)%size]}
		lists[i][1] = hereExpr
	}
	lists[size-1][1] = last
	return impl.Expr{K: impl.XNeg, L: lists[0]}
}

func TestSameTermsThatDoNotEnd(t *testing.T) {
	for _, a := range []int{1, 2, 3, 7, 20} {
		for _, b := range []int{1, 2, 4, 5, 21} {
			checkSameEndless(t, ring(a, hereExpr), ring(b, hereExpr), true)
			checkSameEndless(t, ring(a, hereExpr), ring(b, numExpr(1)), false)
			checkSameEndless(t, ring(a, numExpr(2)), ring(b, numExpr(1)), false)
			checkSameEndless(t, ring(a, numExpr(1)), ring(b, numExpr(1)), a == b)
		}
	}
	checkSameEndless(t, chain(1000000, hereExpr), chain(1000000, hereExpr), true)
	checkSameEndless(t, chain(1000000, hereExpr), chain(1000000, numExpr(1)), false)
	checkSameEndless(t, chain(1000000, hereExpr), chain(1000001, hereExpr), false)
	checkSameEndless(t, doubled(100, hereExpr), doubled(100, hereExpr), true)
	checkSameEndless(t, doubled(100, hereExpr), doubled(100, numExpr(1)), false)
	checkSameEndless(t, doubled(100, hereExpr), doubled(99, hereExpr), false)
}

func chain(times int, e impl.Expr) impl.Expr {
	for range times {
		e = negExpr(e)
	}
	return e
}

// doubled has each list twice within the next one.
func doubled(times int, e impl.Expr) impl.Expr {
	for range times {
		e = pairExpr(impl.XAdd, e, e)
	}
	return e
}

func checkSameEndless(t *testing.T, a, b impl.Expr, want bool) {
	t.Helper()
	if impl.SameExpr(a, b) != want || impl.SameExpr(b, a) != want {
		t.Error("SameExpr is not", want)
	}
}

// A room is the memory of a list, with what lies spare behind it.
type room struct{ from, to uintptr }

func roomsOf(e impl.Expr) []room {
	var l []room
	if cap(e.L) > 0 {
		from := uintptr(unsafe.Pointer(unsafe.SliceData(e.L)))
		l = append(l, room{from, from + uintptr(cap(e.L))*unsafe.Sizeof(e)})
	}
	for _, x := range e.L {
		l = append(l, roomsOf(x)...)
	}
	return l
}

func namesOf(e impl.Expr) []string {
	var l []string
	if e.S != "" {
		l = append(l, e.S)
	}
	for _, x := range e.L {
		l = append(l, namesOf(x)...)
	}
	return l
}

func TestParseExprIsNewMemory(t *testing.T) {
	s := "<<sixlet+a>-<sixlet+a>>"
	one, _ := impl.ParseExpr(s)
	two, _ := impl.ParseExpr(s)
	rooms := append(roomsOf(one), roomsOf(two)...)
	if len(rooms) != 6 {
		t.Error("lists:", len(rooms))
	}
	for i, a := range rooms {
		for _, b := range rooms[:i] {
			if a.from < b.to && b.from < a.to {
				t.Error("two lists share memory")
			}
		}
	}
	names := namesOf(one)
	if !slices.Equal(names, []string{"sixlet", "a", "sixlet", "a"}) {
		t.Error("names:", names)
	}
	for _, name := range names {
		if shareText(name, s) {
			t.Errorf("%q shares the text's memory", name)
		}
	}
}

func TestExprTextIsNewMemory(t *testing.T) {
	name := strings.Repeat("six", 2)
	if s := impl.ExprText(symExpr(name)); s != name || shareText(s, name) {
		t.Errorf("%q shares the name's memory", s)
	}
}

// roomyExpr is e with spare room behind each list, in which something stands.
func roomyExpr(e impl.Expr) impl.Expr {
	l := make([]impl.Expr, 0, len(e.L)+2)
	for _, x := range e.L {
		l = append(l, roomyExpr(x))
	}
	e.L = append(l, numExpr(77), symExpr("behind"))[:len(l)]
	return e
}

func checkRoomy(t *testing.T, e, was impl.Expr) {
	t.Helper()
	if e.K != was.K || e.N != was.N || e.S != was.S || len(e.L) != len(was.L) {
		t.Error("an argument is written")
		return
	}
	behind := e.L[:len(e.L)+2]
	if !sameTerm(behind[len(e.L)], numExpr(77)) || !sameTerm(behind[len(e.L)+1], symExpr("behind")) {
		t.Error("what lies behind a list is written")
	}
	for i := range e.L {
		checkRoomy(t, e.L[i], was.L[i])
	}
}

func TestTellingTermsWritesNothing(t *testing.T) {
	next := nextOf(40)
	for range 500 {
		was := anyTerm(next, 7, next(2) == 0)
		e, other := roomyExpr(was), roomyExpr(was)
		impl.ExprOk(e)
		impl.PlainOk(e)
		if s := impl.ExprText(e); impl.PlainOk(was) && s != wantText(was) {
			t.Errorf("ExprText of %v with room behind: %q", was, s)
		}
		if !impl.SameExpr(e, other) {
			t.Errorf("SameExpr of %v with room behind", was)
		}
		checkRoomy(t, e, was)
		checkRoomy(t, other, was)
	}
}

// Nothing is kept from one term to the next.
func TestTermsHangOnNothingAhead(t *testing.T) {
	deep := within(symExpr("a"), wrappers()[0], 5)
	for range 3 {
		checkPlain(t, deep)
		checkWrongExpr(t, negExpr(deep))
		checkNoParse(t, "------a")
		checkParse(t, "-----a", deep)
		checkNoParse(t, "")
		checkExprOk(t, sectExpr(0), true, false)
	}
}

// A term within is an interface with a type for each kind, told by a type switch.
func TestTermsAreToldByATypeSwitch(t *testing.T) {
	_, files := programFiles(t)
	f := files["l10_expr.go"]
	if f == nil {
		t.Fatal("no l10_expr.go")
	}
	faces, most := 0, 0
	ast.Inspect(f, func(n ast.Node) bool {
		switch x := n.(type) {
		case *ast.InterfaceType:
			if x.Methods.NumFields() > 0 {
				faces++
			}
		case *ast.TypeSwitchStmt:
			kinds := 0
			for _, s := range x.Body.List {
				kinds += len(s.(*ast.CaseClause).List)
			}
			most = max(most, kinds)
		}
		return true
	})
	if faces == 0 || most < 12 {
		t.Error("interfaces, and kinds that a type switch tells:", faces, most)
	}
}
