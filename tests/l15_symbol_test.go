package tests

import (
	"fmt"
	"go/ast"
	"go/types"
	"math"
	"slices"
	"strings"
	"testing"
	"unsafe"

	"loop.example/g00329/impl"
)

// readLines is of right lines, of more than a text may have, too.
func readLines(t *testing.T, s string) []impl.Line {
	t.Helper()
	var l []impl.Line
	for text := range strings.Lines(s) {
		x, ok := impl.ParseLine(strings.TrimSuffix(text, "\n"))
		if !ok {
			t.Fatalf("this test has a line that is not read: %q", text)
		}
		l = append(l, x)
	}
	return l
}

// worthText has `s` and a number for a section; all numbers are decimal.
func worthText(e impl.Expr) string {
	switch {
	case e.K == impl.XNum:
		return fmt.Sprint(e.N)
	case e.K == impl.XSect:
		return fmt.Sprintf("s%d", e.N)
	case e.K == impl.XNeg && len(e.L) == 1:
		return "-" + worthText(e.L[0])
	case len(e.L) == 2:
		return "<" + worthText(e.L[0]) + pairSigns[e.K] + worthText(e.L[1]) + ">"
	}
	return fmt.Sprintf("?%v", e)
}

// tableText has each name and its worth, each section (with `!`, if it lies over others) and how many words it has, and the
// names that are seen outside.
func tableText(tab impl.Table) string {
	var syms, sects []string
	for _, x := range tab.Syms {
		syms = append(syms, x.Name+"="+worthText(x.E))
	}
	for _, x := range tab.Sects {
		over := ""
		if x.Over {
			over = "!"
		}
		sects = append(sects, fmt.Sprintf("%s%s:%d", x.Name, over, len(x.Words)))
	}
	return strings.TrimSpace(strings.Join(syms, " ") + " | " + strings.Join(sects, " ") + " | " + strings.Join(tab.Globs, " "))
}

// checkTable wants what each answered table has, whatever its lines are.
func checkTable(t *testing.T, tab impl.Table) {
	t.Helper()
	names, sects := map[string]bool{}, map[string]bool{}
	for _, x := range tab.Syms {
		if names[x.Name] || !wantName(x.Name) {
			t.Errorf("%q stands there twice, or is no name", x.Name)
		}
		names[x.Name] = true
		if again := impl.Fold(x.E); !impl.ExprOk(x.E) || !sameTerm(again, x.E) || !sameTerm(x.E, wantFold(x.E)) {
			t.Errorf("%s is worth %v, folded again %v", x.Name, x.E, again)
		}
		if s := worthText(x.E); strings.Contains(s, "?") {
			t.Errorf("%s is worth %s", x.Name, s)
		}
	}
	for _, x := range tab.Sects {
		if sects[x.Name] || !wantName(x.Name) || len(x.Words) > 256 {
			t.Errorf("the section %q, with %d words", x.Name, len(x.Words))
		}
		sects[x.Name] = true
		for _, e := range x.Words {
			if !sameTerm(e, numExpr(0)) {
				t.Fatalf("a word of %s: %v", x.Name, e)
			}
		}
	}
	if len(tab.Sects) == 0 || len(tab.Sects) > 8 || tab.Sects[0].Name != "code" || tab.Sects[0].Over {
		t.Errorf("sections: %.300s", tableText(tab))
	}
	for i, name := range tab.Globs {
		if !wantName(name) || i > 0 && tab.Globs[i-1] >= name {
			t.Errorf("names that are seen outside: %q", tab.Globs)
		}
	}
}

func checkSymbolsOf(t *testing.T, l []impl.Line, want string) {
	t.Helper()
	tab, code, at := impl.Symbols(l)
	if s := tableText(tab); code != impl.ErNone || at != -1 || s != want {
		t.Errorf("Symbols of %.300q: %.300s, %d, %d, want %.300s", impl.TextOf(l), s, code, at, want)
		return
	}
	checkTable(t, tab)
}

func checkSymbolsNot(t *testing.T, l []impl.Line, wantCode, wantAt int) {
	t.Helper()
	tab, code, at := impl.Symbols(l)
	if code != wantCode || at != wantAt {
		t.Errorf("Symbols of %.300q: %d, %d, want %d, %d", impl.TextOf(l), code, at, wantCode, wantAt)
	}
	if len(tab.Syms)+len(tab.Sects)+len(tab.Globs) > 0 {
		t.Errorf("Symbols of %.300q: %.300s beside the code %d", impl.TextOf(l), tableText(tab), code)
	}
}

func checkSymbols(t *testing.T, s, want string) {
	t.Helper()
	checkSymbolsOf(t, readLines(t, s), want)
}

func checkWordsOf(t *testing.T, x impl.Line, want int) {
	t.Helper()
	if n := impl.WordsOf(x); n != want {
		t.Errorf("WordsOf of %.300s: %d, want %d", fmt.Sprint(x), n, want)
	}
}

func TestSymbolConstants(t *testing.T) {
	for i, n := range []int{impl.ErNone, impl.ErForm, impl.ErTwice, impl.ErUndef, impl.ErRange, impl.ErConst, impl.ErSize} {
		if n != i {
			t.Error("the code", i, "is", n)
		}
	}
	tab := impl.Table{Syms: []impl.Sym{{Name: "a", E: numExpr(1)}}, Sects: []impl.Sect{{Name: "d", Over: true, Words: []impl.Expr{numExpr(0)}}}, Globs: []string{"a"}}
	if s := tableText(tab); s != "a=1 | d!:1 | a" {
		t.Error(s)
	}
}

func TestWordsOfWrittenOut(t *testing.T) {
	for s, want := range map[string]int{
		"": 0, "a :": 0, "a = 5": 0, "a = <b + 5>": 0, ".sect d": 0, ".sect d , over": 0, ".globl a": 0, ".globl a , b , c , d , e , f": 0, ".end": 0,
		".word 0": 1, ".word 5": 1, ".word a": 1, ".word a , b": 2, ".word 1 , 2 , 3": 3, ".word 1 , . , a , -a": 4, ".word 1 , 2 , 3 , 4 , 5": 5, ".word 1 , 2 , 3 , 4 , 5 , 6": 6,
		".blkw 0": 0, ".blkw 1": 1, ".blkw 7": 7, ".blkw 10": 8, ".blkw 377": 255, ".blkw 400": 256, ".blkw 401": 257, ".blkw 177777": 65535,
		".blkw <2 * 3>": 6, ".blkw -177777": 1, ".blkw - 1": 65535, ".blkw <7 / 2>": 3, ".blkw <<1 + 2> - 3>": 0, ".blkw <14 & 12>": 8, ".blkw <14 | 12>": 14, ".blkw -----1": 65535,
		".blkw a": 0, ".blkw .": 0, ".blkw <a - a>": 0, ".blkw <. - .>": 0, ".blkw <a * 0>": 0, ".blkw <5 / 0>": 0, ".blkw <a + 5>": 0, ".blkw -a": 0,
		"halt": 1, "br a": 1, "bne <a + 2>": 1, "beq 5": 1, "bge .": 1, "blt -a": 1, "emt 1": 1, "emt <a + 2>": 1, "rts r5": 1, "rts pc": 1,
		"clr r0": 1, "clr ( r1 )": 1, "clr ( r1 ) +": 1, "clr @ ( r1 ) +": 1, "clr - ( sp )": 1, "clr @ - ( sp )": 1, "clr 5 ( r1 )": 2, "clr @ 5 ( r1 )": 2, "clr # 5": 2, "clr @ # 5": 2, "clr a": 2, "clr @ a": 2,
		"mov r0 , r1": 1, "mov # 1 , r0": 2, "mov r0 , a": 2, "mov # 1 , @ # 2": 3, "cmp a , b": 3, "bic @ a , @ b ( pc )": 3, "bis ( r1 ) + , - ( r2 )": 1, "add @ ( r0 ) + , # 1": 2, "sub 0 ( r0 ) , r0": 2,
		"jmp ( r0 )": 1, "jmp a": 2, "jsr pc , ( r0 )": 1, "jsr pc , a": 2, "jsr r0 , @ # 4": 2, "inc a": 2, "dec r0": 1, "neg @ a": 2, "tst # 0": 2, "asr ( r0 )": 1, "asl 2 ( r0 )": 2,
	} {
		checkWordsOf(t, readLines(t, s+"\n")[0], want)
	}
}

// wordsTold is of what is right, apart from the order of the forms: those with a term have a word of their own for it.
func wordsTold(x impl.Line) int {
	k, _ := kindOfLine(x)
	n := 0
	switch x.K {
	case impl.LIns:
		n = 1
		if k.src && argForms[x.Src.Form].hasTerm() {
			n++
		}
		if k.dst && argForms[x.Dst.Form].hasTerm() {
			n++
		}
	case impl.LWord:
		n = len(x.L)
	case impl.LBlk:
		if e := wantFold(x.L[0]); isNum(e) {
			n = e.N
		}
	}
	return n
}

func TestWordsOfEachForm(t *testing.T) {
	for _, k := range insKinds() {
		for _, src := range argForms {
			for _, dst := range argForms {
				x := k.x
				if k.src {
					x.Src = src.arg(3, symExpr("a"))
				}
				if k.dst {
					x.Dst = dst.arg(7, numExpr(0))
				}
				checkWordsOf(t, x, wordsTold(x))
			}
		}
	}
	for form := range 12 {
		more := 0
		if form >= 6 {
			more = 1
		}
		a := argForms[form].arg(0, hereExpr)
		checkWordsOf(t, impl.Line{K: impl.LIns, Op: impl.OMov, Src: a}, 1+more)
		checkWordsOf(t, impl.Line{K: impl.LIns, Op: impl.OMov, Dst: a}, 1+more)
		checkWordsOf(t, impl.Line{K: impl.LIns, Op: impl.OMov, Src: a, Dst: a}, 1+2*more)
		checkWordsOf(t, impl.Line{K: impl.LIns, Op: impl.OJsr, N: 5, Dst: a}, 1+more)
	}
}

func TestWordsOfAnyLines(t *testing.T) {
	next := nextOf(15)
	for range 20000 {
		x := anyLine(next)
		checkWordsOf(t, x, wordsTold(x))
	}
	for _, e := range smallTerms(2, append(plainLeaves(), otherLeaves()...)) {
		want := 0
		if f := wantFold(e); isNum(f) {
			want = f.N
		}
		checkWordsOf(t, impl.Line{K: impl.LBlk, L: []impl.Expr{e}}, want)
	}
}

// Of what is not right the words of the document count as they stand.
func TestWordsOfLinesThatAreNotRight(t *testing.T) {
	full := impl.Line{S: "a", Op: impl.OMov, Src: impl.Arg{Form: impl.AImm, E: numExpr(1)}, Dst: impl.Arg{Form: impl.AImm, E: numExpr(1)}, N: 1, L: []impl.Expr{numExpr(3), numExpr(4)}}
	for _, k := range []int{0, 1, 2, 6, 7, 8, 9, 10, -1, -3, -5, 256 + 3, 1<<32 + 4, math.MinInt, math.MaxInt} {
		x := full
		x.K = k
		checkWordsOf(t, x, 0)
	}
	for k, want := range map[int]int{impl.LIns: 3, impl.LWord: 2, impl.LBlk: 3} {
		x := full
		x.K = k
		checkWordsOf(t, x, want)
		for _, n := range []int{-1, 8, 256, math.MinInt, math.MaxInt} {
			x.N = n
			checkWordsOf(t, x, want)
		}
		x.S = "mov"
		checkWordsOf(t, x, want)
	}
	checkWordsOf(t, impl.Line{K: impl.LIns}, 1)
	checkWordsOf(t, impl.Line{K: impl.LWord}, 0)
	checkWordsOf(t, impl.Line{K: impl.LBlk}, 0)
	for _, op := range append(slices.Clone(noOps), impl.OHalt, impl.OBr, impl.OClr, impl.ORts) {
		checkWordsOf(t, impl.Line{K: impl.LIns, Op: op}, 1)
		checkWordsOf(t, impl.Line{K: impl.LIns, Op: op, Src: full.Src}, 2)
		checkWordsOf(t, impl.Line{K: impl.LIns, Op: op, Src: full.Src, Dst: full.Dst}, 3)
	}
	for _, form := range noForms {
		want := 1
		if form > 5 {
			want = 2
		}
		checkWordsOf(t, impl.Line{K: impl.LIns, Op: impl.OMov, Src: impl.Arg{Form: form}}, want)
		checkWordsOf(t, impl.Line{K: impl.LIns, Op: impl.OClr, Dst: impl.Arg{Form: form, Reg: -1}}, want)
	}
	// An operand without the term that its form has is counted by its form.
	checkWordsOf(t, impl.Line{K: impl.LIns, Op: impl.OMov, Src: impl.Arg{Form: impl.AImm}, Dst: impl.Arg{Form: impl.AReg, E: numExpr(1)}}, 2)
	for _, count := range []int{7, 8, 256, 257, 5000} {
		checkWordsOf(t, impl.Line{K: impl.LWord, L: make([]impl.Expr, count)}, count)
		checkWordsOf(t, impl.Line{K: impl.LWord, L: slices.Repeat([]impl.Expr{symExpr("a")}, count)}, count)
	}
	for _, e := range append(wrongTerms(), ring(1, hereExpr), ring(7, numExpr(1)), chain(1000000, numExpr(1)), doubled(100, numExpr(1))) {
		checkWordsOf(t, impl.Line{K: impl.LBlk, L: []impl.Expr{e}}, 0)
		checkWordsOf(t, impl.Line{K: impl.LWord, L: []impl.Expr{e}}, 1)
		checkWordsOf(t, impl.Line{K: impl.LIns, Op: impl.OClr, Dst: impl.Arg{Form: impl.AImm, E: e}}, 2)
	}
	// Six deep and seven.
	six := within(numExpr(1), wrappers()[0], 5)
	checkWordsOf(t, impl.Line{K: impl.LBlk, L: []impl.Expr{six}}, 65535)
	checkWordsOf(t, impl.Line{K: impl.LBlk, L: []impl.Expr{negExpr(six)}}, 0)
	// What lies behind the list's length is not read.
	room := []impl.Expr{numExpr(5), numExpr(6)}
	checkWordsOf(t, impl.Line{K: impl.LBlk, L: room[:0]}, 0)
	checkWordsOf(t, impl.Line{K: impl.LWord, L: room[:0]}, 0)
	checkWordsOf(t, impl.Line{K: impl.LWord, L: room[:1]}, 1)
}

func TestSymbolsWrittenOut(t *testing.T) {
	for s, want := range map[string]string{
		"":                              "| code:0 |",
		"\n":                            "| code:0 |",
		"\n\n\n":                        "| code:0 |",
		".end\n":                        "| code:0 |",
		"halt\n":                        "| code:1 |",
		"halt\n\nhalt\n":                "| code:2 |",
		"a :\n":                         "a=s0 | code:0 |",
		"a :\nb :\nc :\n":               "a=s0 b=s0 c=s0 | code:0 |",
		"c :\na :\nb :\n":               "c=s0 a=s0 b=s0 | code:0 |",
		"halt\na :\n":                   "a=<s0+2> | code:1 |",
		"halt\na :\nhalt\nb :\n":        "a=<s0+2> b=<s0+4> | code:2 |",
		"mov # 1 , @ # 2\na :\n":        "a=<s0+6> | code:3 |",
		"a :\nbr a\nb :\nbr b\nc :\n":   "a=s0 b=<s0+2> c=<s0+4> | code:2 |",
		".word 1 , 2 , 3\na :\n":        "a=<s0+6> | code:3 |",
		".blkw 0\na :\n":                "a=s0 | code:0 |",
		".blkw 10\na :\n":               "a=<s0+16> | code:8 |",
		".blkw <2 * 3>\na :\n":          "a=<s0+12> | code:6 |",
		".blkw 400\na :\n":              "a=<s0+512> | code:256 |",
		"sixlet :\na00000 :\n":          "sixlet=s0 a00000=s0 | code:0 |",
		"code :\nover :\n":              "code=s0 over=s0 | code:0 |",
		"a = 5\n":                       "a=5 | code:0 |",
		"a = 5\nb = a\nc = b\n":         "a=5 b=5 c=5 | code:0 |",
		"a = .\n":                       "a=s0 | code:0 |",
		"halt\na = .\n":                 "a=<s0+2> | code:1 |",
		"halt\na = <. + 10>\nb = .\n":   "a=<s0+10> b=<s0+2> | code:1 |",
		"a :\nhalt\nb = <. - a>\n":      "a=s0 b=2 | code:1 |",
		"halt\na :\nb = <a + a>\n":      "a=<s0+2> b=<<s0+2>+<s0+2>> | code:1 |",
		"a = 177777\nb = <a + 1>\n":     "a=65535 b=0 | code:0 |",
		"a = <7 / 0>\n":                 "a=<7/0> | code:0 |",
		"a = -<2 * 3>\n":                "a=65530 | code:0 |",
		"a = -.\n":                      "a=-s0 | code:0 |",
		"halt\na = -.\n":                "a=-<s0+2> | code:1 |",
		"a = <5 + .>\n":                 "a=<s0+5> | code:0 |",
		"a = <. - 1>\nhalt\nb = <.-a>":  "a=<s0+65535> b=3 | code:1 |",
		".sect d\n":                     "| code:0 d:0 |",
		".sect code\n":                  "| code:0 |",
		".sect d , over\n":              "| code:0 d!:0 |",
		".sect d\na :\n":                "a=s1 | code:0 d:0 |",
		".sect d\nhalt\na :\n":          "a=<s1+2> | code:0 d:1 |",
		".sect a\na :\n.globl a\n":      "a=s1 | code:0 a:0 | a",
		".globl a\n":                    "| code:0 | a",
		".globl b , a\n":                "| code:0 | a b",
		".globl a , a\n":                "| code:0 | a",
		".globl a\n.globl a\na :\n":     "a=s0 | code:0 | a",
		"a = 1\n.globl b\nb = a\n":      "a=1 b=1 | code:0 | b",
		".end\na :\na :\n":              "| code:0 |",
		"a :\n.end\na :\n":              "a=s0 | code:0 |",
		"halt\n.end\nhalt\n":            "| code:1 |",
		".globl a\n.end\n.globl b\n":    "| code:0 | a",
		".sect d\n.end\n.sect e\n":      "| code:0 d:0 |",
		"a = 1\n.end\nb = c\n":          "a=1 | code:0 |",
		".end\n.end\n.blkw 401\n":       "| code:0 |",
		"a : ; no\n ; no\nb = <a+2>;\n": "a=s0 b=<s0+2> | code:0 |",
		"a :\nmov #1 , b\nb :\n.sect data\nx :\n.blkw 3\n.sect code\nclr x\nk = <. - a>\nm = <k + x>\n.globl z , a\n.end\na :\n": "a=s0 b=<s0+6> x=s1 k=10 m=<s1+10> | code:5 data:3 | a z",
	} {
		checkSymbols(t, s, want)
	}
	// A nil list and an empty one are the same.
	checkSymbolsOf(t, nil, "| code:0 |")
	checkSymbolsOf(t, []impl.Line{}, "| code:0 |")
	checkSymbolsOf(t, make([]impl.Line, 1000), "| code:0 |")
}

// Each kind of line moves what stands behind it by twice its words, and nothing else does.
func TestWhereALabelStands(t *testing.T) {
	next := nextOf(115)
	for range 3000 {
		x := anyLine(next)
		if x.K == impl.LEnd || x.K == impl.LSet || x.K == impl.LSect || x.K == impl.LBlk {
			continue
		}
		n := wordsTold(x)
		for _, ahead := range []int{0, 1, 100, 256 - n} {
			l := []impl.Line{{K: impl.LBlk, L: []impl.Expr{numExpr(ahead)}}, x, {K: impl.LLabel, S: "behind"}, {K: impl.LSet, S: "dot", L: []impl.Expr{hereExpr}}}
			tab, code, at := impl.Symbols(l)
			want := plus(sectExpr(0), 2*(ahead+n))
			if ahead+n == 0 {
				want = sectExpr(0)
			}
			last := tab.Syms[max(0, len(tab.Syms)-2):]
			if code != impl.ErNone || at != -1 || len(tab.Sects) != 1 || len(tab.Sects[0].Words) != ahead+n || len(last) != 2 || last[0].Name != "behind" || !sameTerm(last[0].E, want) || !sameTerm(last[1].E, want) {
				t.Errorf("Symbols of %d words and %q: %.200s, %d, %d", ahead, impl.LineText(x), tableText(tab), code, at)
			}
		}
	}
}

func TestLinesBehindTheEnd(t *testing.T) {
	end := impl.Line{K: impl.LEnd}
	behind := []impl.Line{
		{}, end, {K: impl.LLabel, S: "a"}, {K: impl.LSect, S: "d", N: 1}, {K: impl.LGlob, L: []impl.Expr{symExpr("z")}}, {K: impl.LIns, Op: impl.OHalt}, {K: impl.LBlk, L: []impl.Expr{numExpr(256)}},
		{K: impl.LLabel}, {K: impl.LLabel, S: "mov"}, {K: 9}, {K: -1}, {N: 1}, {K: impl.LEnd, N: 1}, {K: impl.LSet, S: "b", L: []impl.Expr{symExpr("none")}}, {K: impl.LBlk, L: []impl.Expr{numExpr(257)}}, {K: impl.LBlk}, {K: impl.LWord, L: make([]impl.Expr, 7)},
		{K: impl.LWord, L: []impl.Expr{ring(1, hereExpr)}}, {K: impl.LSet, S: "b", L: []impl.Expr{chain(1000000, hereExpr)}},
	}
	for _, ahead := range []string{"", "a :\n", "halt\n.sect d\na :\n.globl b\n"} {
		l := append(readLines(t, ahead), end)
		tab, _, _ := impl.Symbols(l[:len(l)-1])
		checkSymbolsOf(t, l, tableText(tab))
		for _, x := range behind {
			checkSymbolsOf(t, append(slices.Clone(l), x), tableText(tab))
			checkSymbolsOf(t, append(slices.Clone(l), x, x), tableText(tab))
		}
		checkSymbolsOf(t, append(slices.Clone(l), behind...), tableText(tab))
	}
}

// Nothing is asked of the line that ends the others, whatever else stands in it.
func TestWhatTheEndHasInIt(t *testing.T) {
	ends := []impl.Line{
		{K: impl.LEnd, S: "a"}, {K: impl.LEnd, S: "mov"}, {K: impl.LEnd, S: "\x00"}, {K: impl.LEnd, N: 1}, {K: impl.LEnd, N: -1}, {K: impl.LEnd, Op: 1}, {K: impl.LEnd, Op: -1}, {K: impl.LEnd, Op: impl.OHalt},
		{K: impl.LEnd, Src: impl.Arg{Reg: 1}}, {K: impl.LEnd, Dst: impl.Arg{Form: 1}}, {K: impl.LEnd, Dst: impl.Arg{Form: 99, Reg: -1}}, {K: impl.LEnd, Src: impl.Arg{Form: impl.AImm, E: numExpr(1)}},
		{K: impl.LEnd, L: []impl.Expr{}}, {K: impl.LEnd, L: []impl.Expr{numExpr(1)}}, {K: impl.LEnd, L: []impl.Expr{symExpr("none")}}, {K: impl.LEnd, L: make([]impl.Expr, 300)}, {K: impl.LEnd, L: []impl.Expr{ring(1, hereExpr)}}, {K: impl.LEnd, L: []impl.Expr{chain(1000000, hereExpr)}},
		{K: impl.LEnd, S: "a", N: 65536, Op: impl.OMov, Src: impl.Arg{Form: 6}, Dst: impl.Arg{Form: 7}, L: wrongTerms()},
	}
	aheads := map[string]string{
		"":                                  "| code:0 |",
		"a :\n":                             "a=s0 | code:0 |",
		"halt\n.sect d\na :\n.globl b\n":    "a=s1 | code:1 d:0 | b",
		".blkw 400\n.sect o , over\nhalt\n": "| code:256 o!:1 |",
	}
	for _, end := range ends {
		for s, want := range aheads {
			ahead := readLines(t, s)
			checkSymbolsOf(t, slices.Concat(ahead, []impl.Line{end}), want)
			checkSymbolsOf(t, slices.Concat(ahead, []impl.Line{{}, end, {K: 9}}), want)
			checkSymbolsOf(t, slices.Concat(ahead, []impl.Line{end, {K: impl.LEnd}, {K: impl.LLabel, S: "a"}, {K: impl.LLabel, S: "a"}}), want)
			// A line ahead of it that is wrong is told of, and it never is.
			checkSymbolsNot(t, slices.Concat(ahead, []impl.Line{{K: 9}, end}), impl.ErForm, len(ahead))
			checkSymbolsNot(t, slices.Concat(ahead, []impl.Line{{}, {K: impl.LWord}, end, {K: 9}}), impl.ErForm, len(ahead)+1)
		}
	}
	// The same of a line of any other kind is wrong.
	for _, end := range ends[:4] {
		for _, k := range []int{impl.LNone, impl.LEnd - 1, impl.LEnd + 1, -impl.LEnd} {
			end.K = k
			checkSymbolsNot(t, []impl.Line{{}, end, {K: impl.LEnd}}, impl.ErForm, 1)
		}
	}
}

func TestNamesAheadAndBehind(t *testing.T) {
	for s, want := range map[string]string{
		"a = 2\nb = <a * a>\nc = <b * b>\n":                         "a=2 b=4 c=16 | code:0 |",
		"a :\nhalt\nb :\nc = <b - a>\nd = <c / 2>\n":                "a=s0 b=<s0+2> c=2 d=1 | code:1 |",
		"a :\nhalt\nb :\nc = <a - b>\n":                             "a=s0 b=<s0+2> c=65534 | code:1 |",
		"a :\n.sect d\nb :\nc = <b - a>\n":                          "a=s0 b=s1 c=<s1-s0> | code:0 d:0 |",
		"halt\na :\n.sect d\nhalt\nb :\nc = <b - a>\n":              "a=<s0+2> b=<s1+2> c=<<s1+2>-<s0+2>> | code:1 d:1 |",
		"a :\n.sect d\nb :\nhalt\nc = <<. - b> + a>\n":              "a=s0 b=s1 c=<s0+2> | code:0 d:1 |",
		"halt\na = .\n.sect d\nb = <. - .>\nc = <a - .>\n":          "a=<s0+2> b=0 c=<<s0+2>-s1> | code:1 d:0 |",
		"a = <. + .>\nhalt\nb = <. + .>\n":                          "a=<s0+s0> b=<<s0+2>+<s0+2>> | code:1 |",
		"a = 1\nb = <1 + a>\nc = <b + <a + b>>\nd = -c\n":           "a=1 b=2 c=5 d=65531 | code:0 |",
		"a = 0\nb = <5 / a>\nc = <b + 1>\nd = <1 + b>\n":            "a=0 b=<5/0> c=<<5/0>+1> d=<<5/0>+1> | code:0 |",
		"a :\nb = <<a + 1> + 2>\nc = <b + 177775>\n":                "a=s0 b=<s0+3> c=s0 | code:0 |",
		"a :\nb = <5 - a>\nc = <a - 5>\nd = <5 + a>\n":              "a=s0 b=<5-s0> c=<s0+65531> d=<s0+5> | code:0 |",
		"a :\nb = <a & 1>\nc = <b | b>\n":                           "a=s0 b=<s0&1> c=<<s0&1>|<s0&1>> | code:0 |",
		"a = 1\n.sect d\nb = a\n.sect code\nc = <a + b>\n":          "a=1 b=1 c=2 | code:0 d:0 |",
		"over = 1\ncode = over\n":                                   "over=1 code=1 | code:0 |",
		"mov a , b\n.word a , b\na = 1\nb = a\n":                    "a=1 b=1 | code:5 |",
		"a = 1\nb = <<<<a + a> + a> + a> + a>\nc = <b * b>\n":       "a=1 b=5 c=25 | code:0 |",
		"a = 1\nab = 2\naa = 3\nb = <<a * 100> + <ab * 10>>\nd=aa":  "a=1 ab=2 aa=3 b=80 d=3 | code:0 |",
		".globl b\na = 1\nb = a\n.globl a\n":                        "a=1 b=1 | code:0 | a b",
		"halt\na = 5\nb :\nhalt\nc = <b + a>\n":                     "a=5 b=<s0+2> c=<s0+7> | code:2 |",
		".blkw 177\na :\n.blkw 201\nb = <a + <a - .>>\nc = <. - a>": "a=<s0+254> b=<s0+65532> c=258 | code:256 |",
	} {
		checkSymbols(t, s, want)
	}
	for s, at := range map[string]int{
		"a = b\n": 0, "a = a\n": 0, "a = b\nb = 1\n": 0, "a = b\nb :\n": 0, "b = a\na = b\n": 0, "a = <1 + b>\n": 0, "a = -b\n": 0, "a = <b * 0>\n": 0, "a = <b - b>\n": 0, "a = <0 & <. + -b>>\n": 0,
		"a = 1\nb = <a + c>\n": 1, "a = 1\nb = <c + a>\n": 1, ".globl b\na = b\n": 1, ".sect b\na = b\n": 1, "a = code\n": 0, "a = over\n": 0, "a = 1\nb = aa\n": 1, "aa = 1\nb = a\n": 1,
		"halt\n\na :\nb = <a + <a + <a + c>>>\nc :\n": 3, ".sect d\na :\n.sect code\nb = <a - c>\nc :\n": 3, ".word b\na = b\nb = 1\n": 1, "mov b , b\nbr b\na = b\n": 2,
	} {
		checkSymbolsNot(t, readLines(t, s), impl.ErUndef, at)
	}
}

func setLine(name string, e impl.Expr) impl.Line {
	return impl.Line{K: impl.LSet, S: name, L: []impl.Expr{e}}
}

// What counts is how deep the term is with what is put into it, not yet folded.
func TestSetTermsSixDeepAndSeven(t *testing.T) {
	halt := impl.Line{K: impl.LIns, Op: impl.OHalt}
	label := impl.Line{K: impl.LLabel, S: "a"}
	for _, w := range wrappers() {
		one := setLine("b", numExpr(1)) // what some ways of laying within name
		for times := range 6 {
			at := within(hereExpr, w, times)
			name := within(symExpr("a"), w, times)
			for _, x := range []struct {
				l    []impl.Line
				deep int
			}{
				{[]impl.Line{one, setLine("x", at)}, times + 1},
				{[]impl.Line{one, halt, setLine("x", at)}, times + 2},
				{[]impl.Line{one, {K: impl.LSect, S: "d"}, setLine("x", at)}, times + 1},
				{[]impl.Line{one, halt, {K: impl.LSect, S: "d"}, halt, setLine("x", at)}, times + 2},
				{[]impl.Line{one, label, setLine("x", name)}, times + 1},
				{[]impl.Line{one, halt, label, setLine("x", name)}, times + 2},
				{[]impl.Line{one, setLine("a", numExpr(7)), setLine("x", name)}, times + 1},
				{[]impl.Line{one, setLine("a", chain(5, numExpr(7))), setLine("x", name)}, times + 1}, // as it is folded
				{[]impl.Line{one, setLine("a", chain(2, hereExpr)), setLine("x", name)}, times + 3},
				{[]impl.Line{one, halt, setLine("a", chain(4, hereExpr)), setLine("x", name)}, times + 6},
				{[]impl.Line{one, halt, label, setLine("y", chain(2, symExpr("a"))), setLine("x", within(symExpr("y"), w, times))}, times + 4},
			} {
				last := len(x.l) - 1
				if x.deep > 6 {
					checkSymbolsNot(t, x.l, impl.ErUndef, last)
					continue
				}
				tab, code, place := impl.Symbols(x.l)
				if code != impl.ErNone || place != -1 || tab.Syms[len(tab.Syms)-1].Name != "x" {
					t.Errorf("Symbols of a term %d deep, %q: %d, %d", x.deep, impl.TextOf(x.l), code, place)
					continue
				}
				checkTable(t, tab)
				if want := toldLast(x.l); !sameTerm(tab.Syms[len(tab.Syms)-1].E, want) {
					t.Errorf("Symbols of %q: %v, want %v", impl.TextOf(x.l), tab.Syms[len(tab.Syms)-1].E, want)
				}
			}
		}
	}
	// Behind words `.` is two deep, though it would be folded away.
	checkSymbols(t, "a = <<<<<. + 1> + 1> + 1> + 1> + 1>\n", "a=<s0+5> | code:0 |")
	checkSymbols(t, "halt\na = <<<<. + 1> + 1> + 1> + 1>\n", "a=<s0+6> | code:1 |")
	checkSymbolsNot(t, readLines(t, "halt\na = <<<<<. + 1> + 1> + 1> + 1> + 1>\n"), impl.ErUndef, 1)
	checkSymbolsNot(t, readLines(t, "halt\nb :\na = <<<<<b - b> + 1> + 1> + 1> + 1>\nc = <<<<<b - b> + 1> + 1> + 1> - <b - b>>\n"), impl.ErUndef, 2)
	// Terms that grow by each other are refused where they are seven deep first.
	checkSymbols(t, "a :\nb = -a\nc = -b\nd = -c\ne = -d\nf = -e\n", "a=s0 b=-s0 c=--s0 d=---s0 e=----s0 f=-----s0 | code:0 |")
	checkSymbolsNot(t, readLines(t, "a :\nb = -a\nc = -b\nd = -c\ne = -d\nf = -e\ng = -f\nh = 1\n"), impl.ErUndef, 6)
	checkSymbolsNot(t, readLines(t, "a :\nb = <a+a>\nc = <b+b>\nd = <c+c>\ne = <d+d>\nf = <e+e>\ng = <f+f>\n"), impl.ErUndef, 6)
}

// toldLast is what the last line's name is worth, as it is told here.
func toldLast(l []impl.Line) impl.Expr {
	w := newToldTable()
	for _, x := range l {
		w.take(x)
	}
	return w.vals[len(w.vals)-1]
}

func TestSectionsGoOn(t *testing.T) {
	for s, want := range map[string]string{
		"halt\n.sect d\n.word 1 , 2\n.sect code\na :\n.sect d\nb :\n":                                              "a=<s0+2> b=<s1+4> | code:1 d:2 |",
		"halt\n.sect code\na :\nhalt\nb :\n.sect code\nc :\n":                                                      "a=<s0+2> b=<s0+4> c=<s0+4> | code:2 |",
		".sect d\na :\n.sect e\nb :\n.sect d\nc :\n.sect e\nd :\n":                                                 "a=s1 b=s2 c=s1 d=s2 | code:0 d:0 e:0 |",
		".sect d\nhalt\n.sect e\n.blkw 3\n.sect d\na :\nhalt\n.sect e\nb :\n.sect d\nc :\n":                        "a=<s1+2> b=<s2+6> c=<s1+4> | code:0 d:2 e:3 |",
		".sect e\n.sect d\n.sect c\n.sect d\nhalt\na :\n":                                                          "a=<s2+2> | code:0 e:0 d:1 c:0 |",
		".sect d , over\nhalt\na :\n.sect code\nb :\n.sect d , over\nc :\nhalt\n":                                  "a=<s1+2> b=s0 c=<s1+2> | code:0 d!:2 |",
		".sect d , over\n.sect d , over\n.sect d , over\n":                                                         "| code:0 d!:0 |",
		".sect d\n.sect d\n.sect d\n":                                                                              "| code:0 d:0 |",
		".sect d , over\n.sect e\n.sect f , over\n.sect e\n.sect d , over\na = .\n":                                "a=s1 | code:0 d!:0 e:0 f!:0 |",
		".sect a\n.sect b\n.sect c\n.sect d\n.sect e\n.sect f\n.sect g\nx :\n":                                     "x=s7 | code:0 a:0 b:0 c:0 d:0 e:0 f:0 g:0 |",
		".sect a\n.sect b\n.sect c\n.sect d\n.sect e\n.sect f\n.sect g\nhalt\n.sect a\n.sect code\n.sect g\nx :\n": "x=<s7+2> | code:0 a:0 b:0 c:0 d:0 e:0 f:0 g:1 |",
		".sect over\n.sect sixlet , over\na :\n":                                                                   "a=s2 | code:0 over:0 sixlet!:0 |",
		"a :\n.sect a\na1 :\n.sect a1\na2 :\n":                                                                     "a=s0 a1=s1 a2=s2 | code:0 a:0 a1:0 |",
		".blkw 400\n.sect d\n.blkw 400\n.sect code\na :\n.sect d\nb :\n":                                           "a=<s0+512> b=<s1+512> | code:256 d:256 |",
	} {
		checkSymbols(t, s, want)
	}
	for s, at := range map[string]int{
		".sect code , over\n": 0, "halt\n.sect code , over\n": 1, ".sect d\n.sect code , over\n": 1,
		".sect d\n.sect d , over\n": 1, ".sect d , over\n.sect d\n": 1, ".sect d\nhalt\n.sect e\n.sect d , over\n": 3, ".sect d , over\n.sect code\na :\n.sect d\n": 3,
		".sect d\n.sect e , over\n.sect d\n.sect e\n.sect d , over\n": 3, ".sect d\n.sect d\n.sect d , over\n.sect d\n": 2, ".sect d , over\n.sect d , over\n.sect d\n": 2,
	} {
		checkSymbolsNot(t, readLines(t, s), impl.ErTwice, at)
	}
}

// sectLines begins so many sections, each Over where that is asked for.
func sectLines(count, n int) []impl.Line {
	var l []impl.Line
	for i := range count {
		l = append(l, impl.Line{K: impl.LSect, S: fmt.Sprintf("s%d", i+1), N: n})
	}
	return l
}

func TestUpTo8Sections(t *testing.T) {
	for _, n := range []int{0, 1} {
		for count := range 12 {
			l := sectLines(count, n)
			if count > 7 {
				checkSymbolsNot(t, l, impl.ErSize, 7)
				checkSymbolsNot(t, append(readLines(t, ".sect code\nhalt\n\n"), l...), impl.ErSize, 10)
				continue
			}
			tab, code, at := impl.Symbols(l)
			if code != impl.ErNone || at != -1 || len(tab.Sects) != count+1 {
				t.Errorf("Symbols of %d sections: %d, %d, %s", count+1, code, at, tableText(tab))
				continue
			}
			checkTable(t, tab)
			// Each of them goes on, however often, with a label of its own.
			for i := range l {
				l = append(l, l[i], impl.Line{K: impl.LLabel, S: fmt.Sprintf("a%d", i)}, impl.Line{K: impl.LIns, Op: impl.OHalt})
			}
			l = append(l, impl.Line{K: impl.LSect, S: "code"}, impl.Line{K: impl.LLabel, S: "last"})
			tab, code, _ = impl.Symbols(l)
			if code != impl.ErNone || len(tab.Syms) != count+1 || !sameTerm(tab.Syms[count].E, sectExpr(0)) {
				t.Errorf("Symbols of %d sections that go on: %d, %s", count+1, code, tableText(tab))
				continue
			}
			for i, x := range tab.Syms[:count] {
				if !sameTerm(x.E, sectExpr(i+1)) || len(tab.Sects[i+1].Words) != 1 || tab.Sects[i+1].Over != (n == 1) {
					t.Errorf("the section %d: %s", i+1, tableText(tab))
				}
			}
			checkTable(t, tab)
		}
	}
	// With 8 of them, one that is there and Over, and is not, is still one that is there.
	checkSymbolsNot(t, append(sectLines(7, 0), impl.Line{K: impl.LSect, S: "s3", N: 1}), impl.ErTwice, 7)
	checkSymbolsNot(t, append(sectLines(7, 1), impl.Line{K: impl.LSect, S: "s3"}), impl.ErTwice, 7)
	checkSymbolsNot(t, append(sectLines(7, 1), impl.Line{K: impl.LSect, S: "s9"}), impl.ErSize, 7)
}

func TestNamesSeenOutside(t *testing.T) {
	for s, want := range map[string]string{
		".globl z\n.globl a\n.globl m\n":         "| code:0 | a m z",
		".globl z , a , m\n":                     "| code:0 | a m z",
		".globl f , e , d , c , b , a\n":         "| code:0 | a b c d e f",
		".globl b , a , b , a , b\n":             "| code:0 | a b",
		".globl b , a\n.globl c , b\n.globl a\n": "| code:0 | a b c",
		".globl ab , a , b , a1 , abc , aa\n":    "| code:0 | a a1 aa ab abc b",
		".globl a10 , a2 , a1 , a\n":             "| code:0 | a a1 a10 a2",
		".globl sixlet , sixle , sixles\n":       "| code:0 | sixle sixles sixlet",
		".globl over , code\n":                   "| code:0 | code over",
		".globl a\na = 1\n":                      "a=1 | code:0 | a",
		"a = 1\n.globl a\n":                      "a=1 | code:0 | a",
		"a = 1\n.globl b\n":                      "a=1 | code:0 | b",
		".sect d\n.globl a\n.sect e\n.globl a\n": "| code:0 d:0 e:0 | a",
		"halt\n.globl a\nb :\n":                  "b=<s0+2> | code:1 | a",
	} {
		checkSymbols(t, s, want)
	}
	// There may be many of them, and of names with a worth.
	var l []impl.Line
	for i := range 3000 {
		l = append(l, impl.Line{K: impl.LGlob, L: []impl.Expr{symExpr(fmt.Sprintf("n%d", i*7%3000)), symExpr(fmt.Sprintf("n%d", i))}}, impl.Line{K: impl.LLabel, S: fmt.Sprintf("n%d", i)})
	}
	tab, code, at := impl.Symbols(l)
	if code != impl.ErNone || at != -1 || len(tab.Globs) != 3000 || len(tab.Syms) != 3000 {
		t.Error("Symbols of 3000 names:", code, at, len(tab.Globs), len(tab.Syms))
	}
	checkTable(t, tab)
}

func blkLine(n int) impl.Line { return impl.Line{K: impl.LBlk, L: []impl.Expr{numExpr(n)}} }

func wordLine(n int) impl.Line {
	return impl.Line{K: impl.LWord, L: slices.Repeat([]impl.Expr{numExpr(5)}, n)}
}

func insLine(n int) impl.Line {
	x := impl.Line{K: impl.LIns, Op: impl.OMov}
	if n > 1 {
		x.Dst = impl.Arg{Form: impl.ARel, E: symExpr("none")}
	}
	if n > 2 {
		x.Src = impl.Arg{Form: impl.AImm, E: numExpr(7)}
	}
	return x
}

// Sections of up to 256 words, by each kind of line that makes some, and of more.
func TestWordsOfSections(t *testing.T) {
	whole := func(count, n int, line func(n int) impl.Line) []impl.Line {
		l := slices.Repeat([]impl.Line{line(n)}, count/n)
		if count%n > 0 {
			l = append(l, line(count%n))
		}
		return l
	}
	for _, begin := range []string{"", ".sect d\n", ".sect d , over\n", "halt\n.sect d\n.blkw 400\n.sect e\n"} {
		ahead := readLines(t, begin)
		tab, _, _ := impl.Symbols(ahead)
		in := len(tab.Sects) - 1
		for _, x := range []struct {
			line func(n int) impl.Line
			most int
		}{{blkLine, 1}, {blkLine, 255}, {blkLine, 256}, {wordLine, 1}, {wordLine, 5}, {wordLine, 6}, {insLine, 1}, {insLine, 2}, {insLine, 3}} {
			for _, count := range []int{0, 1, 2, 255, 256} {
				l := slices.Concat(ahead, whole(count, x.most, x.line), []impl.Line{{K: impl.LLabel, S: "a"}, blkLine(0)})
				tab, code, at := impl.Symbols(l)
				if code != impl.ErNone || at != -1 || len(tab.Sects[in].Words) != count {
					t.Errorf("Symbols of %d words by %d: %d, %d", count, x.most, code, at)
					continue
				}
				checkTable(t, tab)
				want := plus(sectExpr(in), 2*count)
				if count == 0 {
					want = sectExpr(in)
				}
				if !sameTerm(tab.Syms[0].E, want) {
					t.Errorf("behind %d words stands %v", count, tab.Syms[0])
				}
				if count == 256 {
					for _, more := range []impl.Line{blkLine(1), blkLine(256), wordLine(1), wordLine(6), insLine(1), insLine(3)} {
						checkSymbolsNot(t, append(slices.Clone(l), more), impl.ErSize, len(l))
					}
					checkSymbolsOf(t, append(l, blkLine(0), impl.Line{}, impl.Line{K: impl.LEnd}, blkLine(1)), tableText(tab))
				}
			}
			over := slices.Concat(ahead, whole(257, x.most, x.line), []impl.Line{{}, {K: 9}})
			checkSymbolsNot(t, over, impl.ErSize, len(over)-3)
		}
		for _, n := range []int{2, 3, 6} {
			checkSymbolsNot(t, slices.Concat(ahead, []impl.Line{blkLine(257 - n), wordLine(n)}), impl.ErSize, len(ahead)+1)
		}
		checkSymbolsNot(t, slices.Concat(ahead, []impl.Line{blkLine(254), insLine(3)}), impl.ErSize, len(ahead)+1)
		checkSymbolsNot(t, slices.Concat(ahead, []impl.Line{blkLine(255), insLine(2)}), impl.ErSize, len(ahead)+1)
	}
	// What others have does not count, and all may have as many.
	l := []impl.Line{blkLine(256)}
	for _, x := range sectLines(7, 0) {
		l = append(l, x, blkLine(200), impl.Line{K: impl.LSect, S: "code"}, x, wordLine(6), blkLine(50))
	}
	checkSymbolsOf(t, l, "| code:256 s1:256 s2:256 s3:256 s4:256 s5:256 s6:256 s7:256 |")
	// Of one section, over all the times that it goes on.
	l = append(l, impl.Line{K: impl.LSect, S: "s2"}, insLine(1))
	checkSymbolsNot(t, l, impl.ErSize, len(l)-1)
}

func TestBlocksThatAreNotKnown(t *testing.T) {
	for _, s := range []string{"a", ".", "<. - .>", "-a", "<a + 1>", "<a * 0>", "<1 / 0>", "401", "402", "1000", "177777", "-1", "<200 + 201>", "<0 - 1>", "<21 * 20>"} {
		for _, ahead := range []string{"", "a = 1\n", "a :\n", "halt\n\n", ".sect d\n.blkw 400\n", ".blkw 400\n"} {
			l := readLines(t, ahead+".blkw "+s+"\n")
			checkSymbolsNot(t, l, impl.ErConst, len(l)-1)
			checkSymbolsNot(t, append(l, impl.Line{K: 9}), impl.ErConst, len(l)-1)
		}
	}
	for s, n := range map[string]int{"0": 0, "1": 1, "377": 255, "400": 256, "<200 + 200>": 256, "<20 * 20>": 256, "-177400": 256, "<3 - 3>": 0, "<1 / 2>": 0, "---<0 - 5>": 5} {
		checkSymbols(t, ".blkw "+s+"\n", fmt.Sprintf("| code:%d |", n))
	}
}

// wrongLines has a line of each code that holds of it wherever it stands behind aheadOfWrong.
const aheadOfWrong = "a :\nb = 1\n.sect d\n.sect o , over\n.sect e\n.sect f\n.sect g\n.sect h\n.blkw 400\n"

type wrongLine struct {
	x    impl.Line
	code int
}

func wrongLines(t *testing.T) []wrongLine {
	var l []wrongLine
	for _, x := range []impl.Line{{K: 9}, {K: -1}, {N: 1}, {K: impl.LLabel}, {K: impl.LLabel, S: "mov"}, {K: impl.LLabel, S: "a", N: 1}, {K: impl.LSet, S: "c"}, {K: impl.LSet, S: "c", L: []impl.Expr{sectExpr(0)}}, {K: impl.LSet, S: "c", L: []impl.Expr{globExpr("a")}}, {K: impl.LIns}, {K: impl.LIns, Op: impl.OBr}, {K: impl.LWord}, {K: impl.LWord, L: slices.Repeat([]impl.Expr{numExpr(1)}, 7)}, {K: impl.LBlk}, {K: impl.LBlk, L: []impl.Expr{numExpr(1), numExpr(1)}}, {K: impl.LBlk, L: []impl.Expr{numExpr(65536)}}, {K: impl.LSect, S: "d", N: 2}, {K: impl.LSect}, {K: impl.LGlob}, {K: impl.LGlob, L: []impl.Expr{numExpr(1)}}, {K: impl.LEnd + 1}, {S: "a"}} {
		l = append(l, wrongLine{x, impl.ErForm})
	}
	for s, code := range map[string]int{
		"c = z": impl.ErUndef, "c = <a + z>": impl.ErUndef, "a = z": impl.ErUndef, "b = b0": impl.ErUndef, "c = -----.": impl.ErUndef, "a = -----.": impl.ErUndef, "c = c": impl.ErUndef,
		"a :": impl.ErTwice, "b :": impl.ErTwice, "a = 1": impl.ErTwice, "b = 1": impl.ErTwice, "b = b": impl.ErTwice, "a = .": impl.ErTwice, ".sect d , over": impl.ErTwice, ".sect o": impl.ErTwice, ".sect code , over": impl.ErTwice,
		".blkw z": impl.ErConst, ".blkw 401": impl.ErConst, ".blkw b": impl.ErConst,
		".sect i": impl.ErSize, ".sect i , over": impl.ErSize, ".sect a": impl.ErSize, ".sect z": impl.ErSize, "halt": impl.ErSize, ".word 1": impl.ErSize, ".word z": impl.ErSize, ".blkw 1": impl.ErSize, ".blkw 400": impl.ErSize, "mov z , z": impl.ErSize,
	} {
		l = append(l, wrongLine{readLines(t, s)[0], code})
	}
	slices.SortStableFunc(l, func(a, b wrongLine) int { return a.code - b.code })
	return l
}

func TestEachCode(t *testing.T) {
	ahead := readLines(t, aheadOfWrong)
	checkSymbolsOf(t, ahead, "a=s0 b=1 | code:0 d:0 o!:0 e:0 f:0 g:0 h:256 |")
	ahead = append(ahead, impl.Line{K: impl.LSect, S: "last"}, impl.Line{K: impl.LSect, S: "h"})
	right := []impl.Line{{}, {K: impl.LGlob, L: []impl.Expr{symExpr("z")}}, blkLine(0)}
	for _, one := range wrongLines(t) {
		l := append(slices.Clone(ahead), one.x)
		checkSymbolsNot(t, l, one.code, len(ahead))
		checkSymbolsNot(t, append(slices.Clone(l), right...), one.code, len(ahead))
		l = slices.Concat(ahead, right, []impl.Line{one.x})
		checkSymbolsNot(t, l, one.code, len(l)-1)
		checkSymbolsOf(t, slices.Concat(ahead, []impl.Line{{K: impl.LEnd}, one.x}), "a=s0 b=1 | code:0 d:0 o!:0 e:0 f:0 g:0 h:256 last:0 |")
		// The first of two lines that are wrong counts, whatever their codes.
		for _, other := range wrongLines(t) {
			checkSymbolsNot(t, slices.Concat(ahead, []impl.Line{one.x, other.x}), one.code, len(ahead))
			checkSymbolsNot(t, slices.Concat(ahead, right, []impl.Line{one.x, {}, other.x}), one.code, len(ahead)+3)
		}
	}
	// At the first line of all.
	for s, code := range map[string]int{"a = b": impl.ErUndef, "a = <. + <. + <. + <. + <. + a>>>>>": impl.ErUndef, ".sect code , over": impl.ErTwice, ".blkw 401": impl.ErConst, ".blkw .": impl.ErConst} {
		checkSymbolsNot(t, readLines(t, s), code, 0)
	}
	checkSymbolsNot(t, []impl.Line{{K: 9}}, impl.ErForm, 0)
}

// Of one line the first code that holds counts.
func TestTheFirstCodeThatHolds(t *testing.T) {
	for s, want := range map[string][2]int{
		"a = 1\na = b\n":                        {impl.ErUndef, 1},
		"a :\na = a1\n":                         {impl.ErUndef, 1},
		"halt\na :\na = -----a\n":               {impl.ErUndef, 2},
		"a :\n.blkw 400\nb = a\nb = c\na :\n":   {impl.ErUndef, 3},
		".blkw 400\n.blkw 401\n":                {impl.ErConst, 1},
		".blkw 400\n.blkw a\n":                  {impl.ErConst, 1},
		"halt\n.blkw 401\n":                     {impl.ErConst, 1},
		"halt\n.blkw 400\n":                     {impl.ErSize, 1},
		".blkw 400\n.sect d\n.sect d , over\n":  {impl.ErTwice, 2},
		"a = 1\nb :\na = 2\nb = 1\n.blkw 401\n": {impl.ErTwice, 2},
	} {
		checkSymbolsNot(t, readLines(t, s), want[0], want[1])
	}
	a := readLines(t, "a :\n.sect d\n.blkw 400\n")
	for _, x := range []impl.Line{
		{K: impl.LLabel, S: "a", Op: 1}, {K: impl.LSet, S: "a", N: 1, L: []impl.Expr{symExpr("z")}}, {K: impl.LSet, S: "a", L: []impl.Expr{symExpr("z"), symExpr("z")}}, {K: impl.LSet, S: "a", L: []impl.Expr{chain(6, symExpr("z"))}},
		{K: impl.LSect, S: "d", N: 1, L: []impl.Expr{numExpr(1)}}, {K: impl.LBlk, S: "a", L: []impl.Expr{numExpr(257)}}, {K: impl.LBlk, L: []impl.Expr{chain(6, numExpr(257))}}, {K: impl.LWord, N: 1, L: []impl.Expr{numExpr(1)}}, {K: impl.LIns, Op: impl.OHalt, N: 1},
		{K: impl.LSet, S: "a", L: []impl.Expr{ring(1, hereExpr)}}, {K: impl.LBlk, L: []impl.Expr{ring(3, hereExpr)}}, {K: impl.LWord, L: []impl.Expr{doubled(100, hereExpr)}}, {K: impl.LIns, Op: impl.OClr, Dst: impl.Arg{Form: impl.AImm, E: ring(2, numExpr(1))}},
	} {
		checkSymbolsNot(t, append(slices.Clone(a), x), impl.ErForm, 3)
		checkSymbolsNot(t, []impl.Line{x}, impl.ErForm, 0)
	}
}

func TestSymbolsOfManyLines(t *testing.T) {
	var l []impl.Line
	for i := range 30000 {
		name, last := fmt.Sprintf("n%d", i), fmt.Sprintf("n%d", i-1)
		switch {
		case i%3 == 0:
			l = append(l, impl.Line{K: impl.LLabel, S: name})
		default:
			l = append(l, setLine(name, plus(symExpr(last), 1)))
		}
	}
	tab, code, at := impl.Symbols(l)
	if code != impl.ErNone || at != -1 || len(tab.Syms) != len(l) {
		t.Fatal("Symbols of many lines:", code, at, len(tab.Syms))
	}
	for i, x := range tab.Syms {
		want := sectExpr(0)
		if i%3 > 0 {
			want = plus(want, i%3)
		}
		if x.Name != l[i].S || !sameTerm(x.E, want) {
			t.Fatal(i, x)
		}
	}
	checkSymbolsNot(t, append(l, impl.Line{K: impl.LLabel, S: "n29999"}), impl.ErTwice, len(l))
	checkSymbolsNot(t, append(l, setLine("x", symExpr("n30000"))), impl.ErUndef, len(l))
}

type toldSect struct {
	name  string
	over  bool
	words int
}

// A toldTable is what the document tells of lines, apart from the program.
type toldTable struct {
	sects   []toldSect
	in      int
	names   []string
	vals    []impl.Expr
	outside map[string]bool
}

func newToldTable() *toldTable {
	return &toldTable{sects: []toldSect{{name: "code"}}, outside: map[string]bool{}}
}

func (w *toldTable) here() impl.Expr {
	if n := w.sects[w.in].words; n > 0 {
		return plus(sectExpr(w.in), 2*n)
	}
	return sectExpr(w.in)
}

func (w *toldTable) put(e impl.Expr) impl.Expr { return wantPut(e, w.here(), w.names, w.vals) }

func (w *toldTable) sectAt(name string) int {
	return slices.IndexFunc(w.sects, func(x toldSect) bool { return x.name == name })
}

func (w *toldTable) lacks(e impl.Expr) bool {
	return e.K == impl.XSym && !slices.Contains(w.names, e.S) || slices.ContainsFunc(e.L, w.lacks)
}

func (w *toldTable) code(x impl.Line) int {
	isTwoFold := func() bool { at := w.sectAt(x.S); return at >= 0 && w.sects[at].over != (x.N == 1) }
	switch {
	case !wantLineOk(x):
		return impl.ErForm
	case x.K == impl.LSet && (w.lacks(x.L[0]) || deepOf(w.put(x.L[0])) > 6):
		return impl.ErUndef
	case (x.K == impl.LLabel || x.K == impl.LSet) && slices.Contains(w.names, x.S):
		return impl.ErTwice
	case x.K == impl.LSect && isTwoFold():
		return impl.ErTwice
	case x.K == impl.LBlk && (!isNum(wantFold(x.L[0])) || wordsTold(x) > 256):
		return impl.ErConst
	case w.sects[w.in].words+wordsTold(x) > 256:
		return impl.ErSize
	case x.K == impl.LSect && w.sectAt(x.S) < 0 && len(w.sects) == 8:
		return impl.ErSize
	}
	return impl.ErNone
}

// take wants a line that is refused by no code.
func (w *toldTable) take(x impl.Line) {
	worth := w.here()
	switch x.K {
	case impl.LSet:
		worth = wantFold(w.put(x.L[0]))
		fallthrough
	case impl.LLabel:
		w.names = append(w.names, x.S)
		w.vals = append(w.vals, worth)
	case impl.LSect:
		if w.sectAt(x.S) < 0 {
			w.sects = append(w.sects, toldSect{name: x.S, over: x.N == 1})
		}
		w.in = w.sectAt(x.S)
	case impl.LGlob:
		for _, e := range x.L {
			w.outside[e.S] = true
		}
	}
	w.sects[w.in].words += wordsTold(x)
}

func (w *toldTable) table() impl.Table {
	var tab impl.Table
	for i, name := range w.names {
		tab.Syms = append(tab.Syms, impl.Sym{Name: name, E: w.vals[i]})
	}
	for _, x := range w.sects {
		tab.Sects = append(tab.Sects, impl.Sect{Name: x.name, Over: x.over, Words: make([]impl.Expr, x.words)})
	}
	for name := range w.outside {
		tab.Globs = append(tab.Globs, name)
	}
	slices.Sort(tab.Globs)
	return tab
}

// toldOf goes up to the first line that a code refuses; it has no place where there is none.
func toldOf(l []impl.Line) (*toldTable, int, int) {
	w := newToldTable()
	for at, x := range l {
		if x.K == impl.LEnd {
			break
		}
		if code := w.code(x); code != impl.ErNone {
			return w, code, at
		}
		w.take(x)
	}
	return w, impl.ErNone, -1
}

func wantSymbols(l []impl.Line) (string, int, int) {
	w, code, at := toldOf(l)
	if code != impl.ErNone {
		return tableText(impl.Table{}), code, at
	}
	return tableText(w.table()), code, at
}

// termOver is of these leaves, and others at times.
func termOver(next func(n int) int, deep int, leaves []impl.Expr) impl.Expr {
	if deep > 1 && next(2) == 0 {
		if next(4) == 0 {
			return negExpr(termOver(next, deep-1, leaves))
		}
		a := termOver(next, deep-1, leaves)
		return pairExpr(pairKinds[next(len(pairKinds))], a, termOver(next, deep-1, leaves))
	}
	if next(60) == 0 {
		return symExpr("none")
	}
	return leaves[next(len(leaves))]
}

// tellingLine is one that tells something, mostly a right one behind those that w has taken.
func (w *toldTable) tellingLine(next func(n int) int) impl.Line {
	leaves := []impl.Expr{hereExpr, numExpr(2), numExpr(next(65536))}
	for _, name := range w.names {
		leaves = append(leaves, symExpr(name))
	}
	name := fmt.Sprintf("n%d", next(150))
	switch next(11) {
	case 0, 1:
		return impl.Line{K: impl.LLabel, S: name}
	case 2, 3, 4:
		return setLine(name, termOver(next, 1+next(4), leaves))
	case 5, 6:
		n := next(9)
		x := impl.Line{K: impl.LSect, S: []string{"code", "a", "o1", "b", "o2", "c", "d", "e", "f"}[n]}
		if (x.S[0] == 'o') != (next(40) == 0) {
			x.N = 1
		}
		return x
	case 7:
		return impl.Line{K: impl.LGlob, L: []impl.Expr{symExpr(name), symExpr(fmt.Sprintf("n%d", next(150)))}}
	case 8:
		if next(6) == 0 {
			return impl.Line{K: impl.LBlk, L: []impl.Expr{termOver(next, 3, []impl.Expr{numExpr(2), numExpr(130), numExpr(next(65536)), hereExpr})}}
		}
		return blkLine([]int{0, 1, 5, 20, 20, 60, 100, 255, 256}[next(9)*next(9)/8])
	case 9:
		if next(6) == 0 {
			return impl.Line{K: impl.LEnd, N: next(2)}
		}
	}
	x := anyLine(next)
	if next(30) == 0 {
		x.K = next(11) - 1
	}
	if x.K == impl.LBlk || x.K == impl.LSet {
		x = impl.Line{}
	}
	return x
}

func TestSymbolsOfAnyLines(t *testing.T) {
	next := nextOf(215)
	codes := map[int]int{}
	names := 0
	for range 20000 {
		var l []impl.Line
		w := newToldTable()
		for range next(40) {
			x := w.tellingLine(next)
			l = append(l, x)
			if w.code(x) == impl.ErNone && x.K != impl.LEnd {
				w.take(x)
			} else if next(2) == 0 {
				break
			}
		}
		want, wantCode, wantAt := wantSymbols(l)
		tab, code, at := impl.Symbols(l)
		if s := tableText(tab); s != want || code != wantCode || at != wantAt {
			t.Fatalf("Symbols of %q: %s, %d, %d, want %s, %d, %d", impl.TextOf(l), s, code, at, want, wantCode, wantAt)
		}
		codes[code]++
		if code == impl.ErNone {
			checkTable(t, tab)
			names += len(tab.Syms)
		}
	}
	for _, code := range []int{impl.ErNone, impl.ErForm, impl.ErTwice, impl.ErUndef, impl.ErConst, impl.ErSize} {
		if codes[code] < 100 {
			t.Error("codes:", codes)
		}
	}
	if codes[impl.ErNone] < 5000 || names < 20000 || codes[impl.ErRange] > 0 {
		t.Error("codes:", codes, "names:", names)
	}
}

// roomsOfTable has the memory of each list of a table.
func roomsOfTable(tab impl.Table) []room {
	var l []room
	add := func(from unsafe.Pointer, size int, each uintptr) {
		if size > 0 {
			l = append(l, room{uintptr(from), uintptr(from) + uintptr(size)*each})
		}
	}
	add(unsafe.Pointer(unsafe.SliceData(tab.Syms)), cap(tab.Syms), unsafe.Sizeof(impl.Sym{}))
	add(unsafe.Pointer(unsafe.SliceData(tab.Sects)), cap(tab.Sects), unsafe.Sizeof(impl.Sect{}))
	add(unsafe.Pointer(unsafe.SliceData(tab.Globs)), cap(tab.Globs), unsafe.Sizeof(""))
	for _, x := range tab.Syms {
		l = append(l, roomsOf(x.E)...)
	}
	for _, x := range tab.Sects {
		l = append(l, roomsOf(impl.Expr{L: x.Words})...)
	}
	return l
}

func namesOfTable(tab impl.Table) []string {
	l := slices.Clone(tab.Globs)
	for _, x := range tab.Syms {
		l = append(append(l, x.Name), namesOf(x.E)...)
	}
	for _, x := range tab.Sects {
		l = append(append(l, x.Name), namesOf(impl.Expr{L: x.Words})...)
	}
	return l
}

const manyNames = "sixlet :\nhalt\none = <. + .>\ntwo = <one - one>\nthree = <two * sixlet>\nfour = .\n.globl two , one , sixlet , one , none\n.sect sect , over\n.blkw 3\nfive = <<. - sixlet> + four>\n.sect other\n.word 1 , 2\n.sect code\nsix = one\n"

func TestTablesAreNewMemory(t *testing.T) {
	l := readLines(t, manyNames)
	// Of other memory than a text: that of lines.
	for i := range l {
		l[i].S = strings.Clone(l[i].S)
	}
	one, code, _ := impl.Symbols(l)
	two, again, _ := impl.Symbols(l)
	if code != impl.ErNone || again != impl.ErNone {
		t.Fatal("codes", code, again)
	}
	rooms := append(roomsOfTable(one), roomsOfTable(two)...)
	if len(rooms) < 30 {
		t.Error("lists:", len(rooms))
	}
	for _, x := range l {
		rooms = append(rooms, roomsOfLine(x)...)
		for _, arg := range namesOfLine(x) {
			for _, name := range namesOfTable(one) {
				if shareText(name, arg) {
					t.Errorf("%q shares an argument's memory", name)
				}
			}
		}
	}
	checkRoomsApart(t, rooms)
	// What is done to one answer, and to the lines, is not seen in another one.
	want := tableText(two)
	for _, x := range one.Syms {
		scribble(x.E)
	}
	for _, x := range one.Sects {
		scribble(impl.Expr{L: x.Words})
	}
	clear(one.Syms[:cap(one.Syms)])
	clear(one.Sects[:cap(one.Sects)])
	clear(one.Globs[:cap(one.Globs)])
	three, _, _ := impl.Symbols(l)
	for _, x := range l {
		scribble(impl.Expr{L: x.L})
	}
	clear(l)
	if tableText(two) != want || tableText(three) != want {
		t.Errorf("answers share memory: %s, %s, want %s", tableText(two), tableText(three), want)
	}
	checkTable(t, two)
}

// Neither the lines are written, nor what lies behind them, which is not read, either.
func TestSurveyingLinesWritesNothing(t *testing.T) {
	next := nextOf(315)
	for range 1000 {
		count := next(12)
		w := newToldTable()
		var was []impl.Line
		l := make([]impl.Line, 0, count+2)
		for range count {
			x := w.tellingLine(next)
			if w.code(x) == impl.ErNone {
				w.take(x)
			}
			was = append(was, x)
			x.Src.E, x.Dst.E = roomyExpr(x.Src.E), roomyExpr(x.Dst.E)
			x.L = roomyExpr(impl.Expr{L: x.L}).L
			l = append(l, x)
		}
		behind := []impl.Line{{K: impl.LLabel, S: "behind"}, {K: 9}}
		l = append(l, behind...)[:count]
		want, wantCode, wantAt := wantSymbols(was)
		tab, code, at := impl.Symbols(l)
		if s := tableText(tab); s != want || code != wantCode || at != wantAt {
			t.Errorf("Symbols with room behind: %s, %d, %d, want %s, %d, %d", s, code, at, want, wantCode, wantAt)
		}
		for i, x := range was {
			if n := impl.WordsOf(l[i]); n != impl.WordsOf(x) {
				t.Errorf("WordsOf of %v with room behind: %d", x, n)
			}
			if !sameLine(l[i], x) {
				t.Error("an argument is written")
			}
			checkRoomy(t, l[i].Src.E, x.Src.E)
			checkRoomy(t, l[i].Dst.E, x.Dst.E)
			checkRoomy(t, impl.Expr{L: l[i].L}, impl.Expr{L: x.L})
		}
		if !sameLines(l[count:count+2], behind) {
			t.Error("what lies behind the lines is written")
		}
	}
}

// Nothing is kept from one call to the next, not of lines that are refused, either.
func TestTablesHangOnNothingAhead(t *testing.T) {
	for range 3 {
		checkSymbols(t, "a :\n.sect d\n.globl a\nhalt\n", "a=s0 | code:0 d:1 | a")
		checkSymbols(t, "a = 1\n", "a=1 | code:0 |")
		checkSymbolsNot(t, readLines(t, "b = 1\n.blkw 400\n.globl b\n.sect d\n.sect d , over\n"), impl.ErTwice, 4)
		checkSymbolsNot(t, readLines(t, "c = b\n"), impl.ErUndef, 0)
		checkSymbols(t, "halt\nb = .\n.sect d , over\n", "b=<s0+2> | code:1 d!:0 |")
		checkSymbols(t, "", "| code:0 |")
		checkSymbolsNot(t, sectLines(8, 0), impl.ErSize, 7)
		checkSymbols(t, ".sect s8\n", "| code:0 s8:0 |")
	}
}

// What is wrong is an error of a type of its own, asked for by errors.As.
func TestWhatIsWrongIsAnErrorOfItsOwn(t *testing.T) {
	info := &types.Info{Types: map[ast.Expr]types.TypeAndValue{}, Defs: map[*ast.Ident]types.Object{}, Uses: map[*ast.Ident]types.Object{}}
	f := typedFiles(t, info)["l15_symbol.go"]
	if f == nil {
		t.Fatal("no l15_symbol.go")
	}
	fault := types.Universe.Lookup("error").Type().Underlying().(*types.Interface)
	own, asked := map[string]bool{}, ""
	ast.Inspect(f, func(n ast.Node) bool {
		switch x := n.(type) {
		case *ast.TypeSpec:
			t := info.Defs[x.Name].Type()
			own[t.String()] = types.Implements(t, fault) || types.Implements(types.NewPointer(t), fault)
		case *ast.CallExpr:
			if s, ok := x.Fun.(*ast.SelectorExpr); ok && info.Uses[s.Sel] != nil && info.Uses[s.Sel].Name() == "As" && info.Uses[s.Sel].Pkg().Path() == "errors" {
				asked = strings.TrimLeft(info.Types[x.Args[1]].Type.String(), "*")
			}
		}
		return true
	})
	if !own[asked] {
		t.Errorf("an error of its own, asked for by errors.As: %v, %q", own, asked)
	}
}
