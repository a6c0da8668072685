package tests

import (
	"fmt"
	"go/ast"
	"go/types"
	"math"
	"slices"
	"strings"
	"testing"
	"unsafe"

	"loop.example/g00329/impl"
)

// moduleText has `s` and a number for a section, and `@` ahead of a name from elsewhere; all numbers are to the base 8.
func moduleText(e impl.Expr) string {
	switch {
	case e.K == impl.XNum:
		return fmt.Sprintf("%o", e.N)
	case e.K == impl.XSect:
		return fmt.Sprintf("s%d", e.N)
	case e.K == impl.XGlob:
		return "@" + e.S
	case e.K == impl.XNeg && len(e.L) == 1:
		return "-" + moduleText(e.L[0])
	case len(e.L) == 2:
		return "<" + moduleText(e.L[0]) + pairSigns[e.K] + moduleText(e.L[1]) + ">"
	}
	return fmt.Sprintf("?%v", e)
}

func wordsText(l []impl.Expr) string {
	var texts []string
	for _, e := range l {
		texts = append(texts, moduleText(e))
	}
	return strings.Join(texts, " ")
}

// objText has each section (with `!`, if it lies over others) and its words, and each name that is seen outside.
func objText(o impl.Obj) string {
	var parts, globs []string
	for _, x := range o.Sects {
		over := ""
		if x.Over {
			over = "!"
		}
		parts = append(parts, strings.TrimSpace(x.Name+over+": "+wordsText(x.Words)))
	}
	for _, x := range o.Globs {
		globs = append(globs, x.Name+"="+moduleText(x.E))
	}
	if len(globs) > 0 {
		parts = append(parts, strings.Join(globs, " "))
	}
	return strings.Join(parts, "; ")
}

func sameTerms(a, b []impl.Expr) bool { return slices.EqualFunc(a, b, sameTerm) }

func checkLineWordsOf(t *testing.T, x impl.Line, tab impl.Table, sect, at int, want string) {
	t.Helper()
	l, code := impl.LineWords(x, tab, sect, at)
	if s := wordsText(l); code != impl.ErNone || s != want {
		t.Errorf("LineWords of %.300q of %d at %d: %.300s, %d, want %.300s", impl.LineText(x), sect, at, s, code, want)
	}
}

func checkLineWordsNot(t *testing.T, x impl.Line, tab impl.Table, sect, at int, want int) {
	t.Helper()
	if l, code := impl.LineWords(x, tab, sect, at); code != want || len(l) > 0 {
		t.Errorf("LineWords of %.300q of %d at %d: %.300s, %d, want %d", impl.LineText(x), sect, at, wordsText(l), code, want)
	}
}

func checkLineWords(t *testing.T, s string, tab impl.Table, sect, at int, want string) {
	t.Helper()
	checkLineWordsOf(t, readLines(t, s+"\n")[0], tab, sect, at, want)
}

func checkNoLineWords(t *testing.T, s string, tab impl.Table, sect, at int, want int) {
	t.Helper()
	checkLineWordsNot(t, readLines(t, s+"\n")[0], tab, sect, at, want)
}

func checkAssembledOf(t *testing.T, l []impl.Line, want string) {
	t.Helper()
	o, code, at := impl.Assemble(l)
	if s := objText(o); code != impl.ErNone || at != -1 || s != want {
		t.Errorf("Assemble of %.300q: %.300s, %d, %d, want %.300s", impl.TextOf(l), s, code, at, want)
	}
	if !impl.ObjOk(o) {
		t.Errorf("Assemble of %.300q is not ObjOk", impl.TextOf(l))
	}
}

func checkAssembledNot(t *testing.T, l []impl.Line, wantCode, wantAt int) {
	t.Helper()
	o, code, at := impl.Assemble(l)
	if code != wantCode || at != wantAt || len(o.Sects)+len(o.Globs) > 0 {
		t.Errorf("Assemble of %.300q: %.300s, %d, %d, want %d, %d", impl.TextOf(l), objText(o), code, at, wantCode, wantAt)
	}
}

func checkAssembled(t *testing.T, s, want string) {
	t.Helper()
	checkAssembledOf(t, readLines(t, s), want)
}

func checkObjOk(t *testing.T, what string, o impl.Obj, want bool) {
	t.Helper()
	if impl.ObjOk(o) != want {
		t.Errorf("ObjOk of %s is not %v", what, want)
	}
}

func symOf(name string, e impl.Expr) impl.Sym { return impl.Sym{Name: name, E: e} }

// tableOfNames has names of each kind of worth, and one that is seen outside, too.
func tableOfNames() impl.Table {
	return impl.Table{
		Syms: []impl.Sym{
			symOf("a", numExpr(0o100)), symOf("l", plus(sectExpr(0), 0o10)), symOf("d", sectExpr(1)), symOf("k", plus(sectExpr(1), 6)), symOf("both", numExpr(7)),
			symOf("m", negExpr(sectExpr(2))), symOf("odd", plus(sectExpr(0), 0o21)), symOf("s", sectExpr(0)),
		},
		Globs: []string{"both", "g", "h"},
	}
}

func TestLineWordsWrittenOut(t *testing.T) {
	tab := tableOfNames()
	for s, want := range map[string]string{
		"": "", "x :": "", "a :": "", "x = a": "", "x = <g + .>": "", ".sect x": "", ".sect x , over": "", ".globl g": "", ".globl g , h , both": "", ".end": "",
		"halt": "0", "rts r0": "200", "rts r5": "205", "rts pc": "207",
		"mov r1 , r2": "10102", "cmp r0 , r1": "20001", "bic r2 , r3": "40203", "bis r4 , r5": "50405", "add sp , pc": "60607", "sub r0 , r1": "160001",
		"clr r0": "5000", "inc r1": "5201", "dec r2": "5302", "neg r3": "5403", "tst r4": "5704", "asr r5": "6205", "asl sp": "6306", "jmp ( r3 )": "113", "jsr r1 , ( r2 )": "4112", "jsr pc , @ - ( r5 )": "4755",
		"mov ( r1 ) , ( sp )": "11116", "mov ( r1 ) + , - ( sp )": "12146", "mov @ ( r1 ) + , @ - ( sp )": "13156", "mov - ( r0 ) , ( pc )": "14017",
		"mov ( pc ) + , r0": "12700", "mov @ ( pc ) + , @ ( pc ) +": "13737", "clr - ( pc )": "5047",
		"mov #5 , r0": "12700 5", "mov @ #5 , r0": "13700 5", "mov r0 , #5": "10027 5", "mov #1 , #2": "12727 1 2", "mov @ #1 , @ #2": "13737 1 2", "mov #-1 , r0": "12700 177777",
		"mov 2 ( r1 ) , r0": "16100 2", "mov @ 2 ( r1 ) , @ 4 ( r5 )": "17175 2 4", "mov r0 , l ( r3 )": "10063 <s0+10>", "clr @ g ( sp )": "5076 @g",
		"mov a , r0": "16700 <100-<s0+24>>", "mov l , r0": "16700 177764", "mov @ l , r0": "17700 177764", "mov r0 , l": "10067 177764", "mov r0 , @ l": "10077 177764",
		"mov l , l": "16767 177764 177762", "mov @ l , @ l": "17777 177764 177762", "mov l , @ l": "16777 177764 177762",
		"mov #l , l": "12767 <s0+10> 177762", "mov l , #l": "16727 177764 <s0+10>", "mov @ #l , @ l": "13777 <s0+10> 177762", "mov @ l , @ #l": "17737 177764 <s0+10>",
		"mov 2 ( r1 ) , l": "16167 2 177762", "mov l , 2 ( r1 )": "16761 177764 2", "mov ( r1 ) , l": "11167 177764", "mov l ( pc ) , l": "16767 <s0+10> 177762", "mov @ l ( pc ) , @ l": "17777 <s0+10> 177762",
		"mov . , .": "16767 177774 177772", "mov #. , #.": "12727 <s0+20> <s0+20>", "mov r0 , .": "10067 177774", "mov . ( r0 ) , @ .": "16077 <s0+20> 177772",
		"mov <. + 4> , <. + 6>": "16767 0 0", "mov <. + 6> , <. + 4>": "16767 2 177776",
		"clr d": "5067 <s1-<s0+24>>", "clr k": "5067 <<s1+6>-<s0+24>>", "clr m": "5067 <-s2-<s0+24>>", "clr s": "5067 177754", "clr #s": "5027 s0",
		"clr g": "5067 <@g-<s0+24>>", "clr <g + 2>": "5067 <<@g+2>-<s0+24>>", "clr #g": "5027 @g", "clr @ #<g - 2>": "5037 <@g+177776>", "inc both": "5267 <7-<s0+24>>", "mov g , h": "16767 <@g-<s0+24>> <@h-<s0+26>>",
		"jsr pc , g": "4767 <@g-<s0+24>>", "jsr r5 , @ #g": "4537 @g", "jsr r0 , l": "4067 177764", "jmp l": "167 177764", "jmp @ g": "177 <@g-<s0+24>>",
		"br .": "777", "br <. + 2>": "400", "br l": "773", "bne l": "1373", "beq <. + 400>": "1577", "bge <. - 376>": "2200", "blt l": "2773", "br s": "767", "br <l + 10>": "777",
		"emt 0": "104000", "emt 377": "104377", "emt a": "104100", "emt both": "104007", "emt <. - l>": "104010", "emt -177777": "104001",
		".word 5": "5", ".word .": "<s0+20>", ".word 1 , .": "1 <s0+20>", ".word l , . , g , a , both , -1": "<s0+10> <s0+20> @g 100 7 177777", ".word <. + 2> , <g - g> , <5 / 0>": "<s0+22> <@g-@g> <5/0>",
		".word <2 + g> , <g - 2> , <a * 2> , <k - d> , <k - l> , -l": "<@g+2> <@g+177776> 200 6 <<s1+6>-<s0+10>> -<s0+10>", ".word <a & <g | both>>": "<100&<@g|7>>",
		".blkw 0": "", ".blkw 1": "0", ".blkw 3": "0 0 0", ".blkw <2 * 2>": "0 0 0 0", ".blkw .": "", ".blkw a": "", ".blkw g": "",
	} {
		checkLineWords(t, s, tab, 0, 0o20, want)
	}
}

// Where a line stands is a word of a section, and so is the place behind each of its words.
func TestPlacesBehindWords(t *testing.T) {
	tab := tableOfNames()
	for _, z := range []struct {
		s        string
		sect, at int
		want     string
	}{
		{"clr a", 0, 0, "5067 <100-<s0+4>>"}, {"mov a , a", 0, 0, "16767 <100-<s0+4>> <100-<s0+6>>"}, {"mov #. , .", 0, 0, "12767 s0 177772"}, {".word . , <. + 1>", 0, 0, "s0 <s0+1>"}, {"br .", 0, 0, "777"}, {"br l", 0, 0, "403"},
		{"clr a", 3, 0, "5067 <100-<s3+4>>"}, {".word .", 3, 0, "s3"}, {".word . , l", 9, 0, "s9 <s0+10>"}, {".word .", 9, 2, "<s9+2>"}, {"clr d", 1, 0, "5067 177774"}, {"clr k", 1, 2, "5067 0"}, {"clr l", 1, 2, "5067 <<s0+10>-<s1+6>>"},
		{"br d", 1, 0, "777"}, {"br k", 1, 0o20, "772"}, {"br .", 9, 65535, "777"},
		{"clr a", 3, 65530, "5067 <100-<s3+177776>>"}, {"clr a", 3, 65531, "5067 <100-<s3+177777>>"}, {"clr a", 3, 65532, "5067 <100-s3>"}, {"clr a", 3, 65533, "5067 <100-<s3+1>>"}, {"clr a", 3, 65534, "5067 <100-<s3+2>>"}, {"clr a", 3, 65535, "5067 <100-<s3+3>>"},
		{"mov a , a", 3, 65530, "16767 <100-<s3+177776>> <100-s3>"}, {"mov a , a", 3, 65532, "16767 <100-s3> <100-<s3+2>>"}, {"mov r0 , a", 3, 65532, "10067 <100-s3>"}, {"mov #1 , a", 3, 65530, "12767 1 <100-s3>"},
		{".word . , .", 3, 65535, "<s3+177777> <s3+177777>"}, {"mov . , @ .", 3, 65534, "16777 177774 177772"}, {"br <. + 2>", 3, 65534, "400"}, {"br <. + 400>", 3, 65534, "577"}, {"br <. - 376>", 3, 65534, "600"}, {"br .", 3, 65534, "777"},
		{"clr a", 0, 1, "5067 <100-<s0+5>>"}, {"clr .", 0, 5, "5067 177774"}, {"br <. + 4>", 0, 5, "401"}, {"br odd", 0, 5, "405"}, {"br odd", 0, 0o21, "777"}, {"br <odd - 1>", 0, 0o20, "777"},
		{"br l", 0, 65534, "404"}, {"br l", 0, 0o406, "600"}, {"br l", 0, 65288, "577"},
	} {
		checkLineWords(t, z.s, tab, z.sect, z.at, z.want)
	}
	for _, at := range []int{5, 0o407, 0o410, 65286, 65287} {
		checkNoLineWords(t, "br l", tab, 0, at, impl.ErRange)
	}
}

// toldModes are those of chapter 4 by Form; where a Reg is below 0 it is the operand's own.
var toldModes = [12]impl.Opd{{Mode: 0, Reg: -1}, {Mode: 1, Reg: -1}, {Mode: 2, Reg: -1}, {Mode: 3, Reg: -1}, {Mode: 4, Reg: -1}, {Mode: 5, Reg: -1}, {Mode: 6, Reg: -1}, {Mode: 7, Reg: -1}, {Mode: 2, Reg: 7}, {Mode: 3, Reg: 7}, {Mode: 6, Reg: 7}, {Mode: 7, Reg: 7}}

func toldOpd(a impl.Arg) impl.Opd {
	o := toldModes[a.Form]
	if o.Reg < 0 {
		o.Reg = a.Reg
	}
	return o
}

// A toldPut is what the document tells of terms where a line stands, apart from the program.
type toldPut struct {
	sect, at int
	names    []string
	vals     []impl.Expr
}

func newToldPut(tab impl.Table, sect, at int) toldPut {
	w := toldPut{sect: sect, at: at}
	for _, x := range tab.Syms {
		w.names, w.vals = append(w.names, x.Name), append(w.vals, x.E)
	}
	for _, name := range tab.Globs {
		w.names, w.vals = append(w.names, name), append(w.vals, globExpr(name))
	}
	return w
}

func (w toldPut) place(bytes int) impl.Expr {
	if n := uint16(w.at + bytes); n > 0 {
		return plus(sectExpr(w.sect), int(n))
	}
	return sectExpr(w.sect)
}

func (w toldPut) lacks(e impl.Expr) bool {
	return e.K == impl.XSym && !slices.Contains(w.names, e.S) || slices.ContainsFunc(e.L, w.lacks)
}

// put takes off the place so many bytes behind, if that is above 0.
func (w toldPut) put(e impl.Expr, behind int) (impl.Expr, bool) {
	if w.lacks(e) {
		return impl.Expr{}, false
	}
	e = wantPut(e, w.place(0), w.names, w.vals)
	if deepOf(e) > 6 {
		return impl.Expr{}, false
	}
	e = wantFold(e)
	if behind > 0 {
		e = pairExpr(impl.XSub, e, w.place(behind))
	}
	return wantFold(e), deepOf(e) <= 6
}

// number is that of a branch or an OEmt, and a code.
func (w toldPut) number(x impl.Line) (int, int) {
	behind := 0
	if x.Op != impl.OEmt {
		behind = 2
	}
	e, ok := w.put(x.L[0], behind)
	switch {
	case !ok:
		return 0, impl.ErUndef
	case !isNum(e):
		return 0, impl.ErRange
	case behind == 0 && e.N < 256:
		return e.N, impl.ErNone
	case behind == 0 || e.N%2 > 0:
		return 0, impl.ErRange
	case e.N <= 254:
		return e.N / 2, impl.ErNone
	case e.N >= 65536-256:
		return (e.N - 65536) / 2, impl.ErNone
	}
	return 0, impl.ErRange
}

func (w toldPut) ins(x impl.Line) ([]impl.Expr, int) {
	k, _ := kindOfLine(x)
	y := impl.Ins{Op: x.Op, N: x.N}
	if len(x.L) > 0 {
		n, code := w.number(x)
		if code != impl.ErNone {
			return nil, code
		}
		y.N = n
	}
	l := []impl.Expr{{}}
	add := func(a impl.Arg, o *impl.Opd) bool {
		*o = toldOpd(a)
		if !argForms[a.Form].hasTerm() {
			return true
		}
		behind := 0
		if a.Form == impl.ARel || a.Form == impl.ARelI {
			behind = 2*len(l) + 2
		}
		e, ok := w.put(a.E, behind)
		l = append(l, e)
		return ok
	}
	if k.src && !add(x.Src, &y.Src) || k.dst && !add(x.Dst, &y.Dst) {
		return nil, impl.ErUndef
	}
	l[0] = numExpr(wantCode(y))
	return l, impl.ErNone
}

func toldWords(x impl.Line, tab impl.Table, sect, at int) ([]impl.Expr, int) {
	if !wantLineOk(x) || sect < 0 || sect > 9 || at < 0 || at > 65535 {
		return nil, impl.ErForm
	}
	w := newToldPut(tab, sect, at)
	switch x.K {
	case impl.LIns:
		return w.ins(x)
	case impl.LBlk:
		return slices.Repeat([]impl.Expr{numExpr(0)}, min(256, wordsTold(x))), impl.ErNone
	case impl.LWord:
		var l []impl.Expr
		for _, e := range x.L {
			e, ok := w.put(e, 0)
			if !ok {
				return nil, impl.ErUndef
			}
			l = append(l, e)
		}
		return l, impl.ErNone
	}
	return nil, impl.ErNone
}

// checkAsTold answers the code.
func checkAsTold(t *testing.T, x impl.Line, tab impl.Table, sect, at int) int {
	t.Helper()
	want, wantCode := toldWords(x, tab, sect, at)
	l, code := impl.LineWords(x, tab, sect, at)
	if code != wantCode || !sameTerms(l, want) {
		t.Errorf("LineWords of %.300q of %d at %d: %.300s, %d, want %.300s, %d", impl.LineText(x), sect, at, wordsText(l), code, wordsText(want), wantCode)
	}
	if code == impl.ErNone && len(l) != min(256, impl.WordsOf(x)) {
		t.Errorf("LineWords of %.300q: %d words, want %d", impl.LineText(x), len(l), impl.WordsOf(x))
	}
	return code
}

// Each form as Src and as Dst, alone and beside each other one, in each Op that has operands.
func TestWordsOfOperands(t *testing.T) {
	tab := tableOfNames()
	terms := []impl.Expr{numExpr(5), hereExpr, symExpr("l"), symExpr("d"), symExpr("g"), plus(symExpr("k"), 2), minus(symExpr("g"), 4)}
	for _, k := range insKinds() {
		for i, src := range argForms {
			for j, dst := range argForms {
				for n, e := range terms {
					x := k.x
					if x.L != nil {
						continue
					}
					if k.src {
						x.Src = src.arg(i%8, e)
					}
					if k.dst {
						x.Dst = dst.arg((j+n)%8, terms[(n+j)%len(terms)])
					}
					x.N = min(k.highestN, (i+j)%8)
					for _, at := range []int{0, 2, 0o20, 65532} {
						if code := checkAsTold(t, x, tab, n%10, at); code != impl.ErNone {
							t.Errorf("LineWords of %q: %d", impl.LineText(x), code)
						}
					}
				}
			}
		}
	}
}

// The first word has of each form the Mode that it is there for, in the one place and in the other.
func TestModesOfOperands(t *testing.T) {
	modes := []string{"0r", "1r", "2r", "3r", "4r", "5r", "6r", "7r", "27", "37", "67", "77"}
	number := numExpr(1)
	for i, src := range argForms {
		for j, dst := range argForms {
			for reg := range 8 {
				ss := strings.ReplaceAll(modes[i], "r", fmt.Sprint(reg))
				dd := strings.ReplaceAll(modes[j], "r", fmt.Sprint(7-reg))
				for want, x := range map[string]impl.Line{
					"1" + ss + dd:  {Op: impl.OMov, Src: src.arg(reg, number), Dst: dst.arg(7-reg, number)},
					"16" + ss + dd: {Op: impl.OSub, Src: src.arg(reg, number), Dst: dst.arg(7-reg, number)},
					"50" + dd:      {Op: impl.OClr, Dst: dst.arg(7-reg, number)},
					"43" + dd:      {Op: impl.OJsr, N: 3, Dst: dst.arg(7-reg, number)},
				} {
					x.K = impl.LIns
					l, code := impl.LineWords(x, impl.Table{}, 0, 0)
					if code != impl.ErNone || len(l) == 0 || moduleText(l[0]) != want {
						t.Errorf("LineWords of %q: %s, %d, want %s", impl.LineText(x), wordsText(l), code, want)
					}
				}
			}
		}
	}
}

// The first word and those behind it are just what chapter 4 has, where all terms are known.
func TestWordsOfALineAreThoseOfItsInstruction(t *testing.T) {
	for _, k := range insKinds() {
		for _, src := range argForms {
			for _, dst := range argForms {
				x := k.x
				y := impl.Ins{Op: x.Op}
				where := 0o30
				for _, side := range []struct {
					has bool
					f   argForm
					arg *impl.Arg
					o   *impl.Opd
				}{{k.src, src, &x.Src, &y.Src}, {k.dst, dst, &x.Dst, &y.Dst}} {
					if !side.has {
						continue
					}
					*side.arg = side.f.arg(3, numExpr(where))
					*side.o = toldOpd(*side.arg)
					if side.f.form == impl.ARel || side.f.form == impl.ARelI {
						// A name of this section: what is taken off leaves a word.
						side.arg.E = symExpr("s")
					}
					where += 2
				}
				if x.L != nil {
					x.L = []impl.Expr{numExpr(5)}
					y.N = 5
					if x.Op != impl.OEmt {
						x.L = []impl.Expr{plus(hereExpr, 12)}
					}
				}
				l, code := impl.LineWords(x, tableOfNames(), 0, 0o20)
				if code != impl.ErNone || len(l) != impl.WordsOf(x) {
					t.Fatalf("LineWords of %q: %s, %d", impl.LineText(x), wordsText(l), code)
				}
				words := []int{}
				for _, e := range l {
					words = append(words, e.N)
				}
				back, n, ok := impl.Decode(words, 0)
				behind := 0o22
				for _, o := range []*impl.Opd{&y.Src, &y.Dst} {
					if wordsOfModes[o.Mode][o.Reg] != '1' {
						continue
					}
					o.X = l[(behind-0o20)/2].N
					behind += 2
					if o.Mode > 5 && o.Reg == 7 && o.X != (65536-behind)%65536 {
						t.Errorf("LineWords of %q: the word ahead of %o is %o", impl.LineText(x), behind, o.X)
					}
				}
				if !ok || n != len(l) || back != y {
					t.Errorf("Decode of the words of %q: %v, %d, %v, want %v", impl.LineText(x), back, n, ok, y)
				}
			}
		}
	}
}

var branchOps = []int{impl.OBr, impl.OBne, impl.OBeq, impl.OBge, impl.OBlt}

func branchLine(op int, e impl.Expr) impl.Line {
	return impl.Line{K: impl.LIns, Op: op, L: []impl.Expr{e}}
}

// checkBranch wants the word of chapter 4 where the place that is meant, so many bytes from where the line stands, is near enough.
func checkBranch(t *testing.T, x impl.Line, tab impl.Table, sect, at, far int) {
	t.Helper()
	half := (far - 2) / 2
	if far%2 != 0 || half < -128 || half > 127 {
		checkLineWordsNot(t, x, tab, sect, at, impl.ErRange)
		return
	}
	checkLineWordsOf(t, x, tab, sect, at, fmt.Sprintf("%o", wantCode(impl.Ins{Op: x.Op, N: half})))
}

func TestHowFarBranchesGo(t *testing.T) {
	for _, op := range branchOps {
		for _, at := range []int{0, 2, 7, 0o400, 1000, 32766, 32768, 65534, 65535} {
			for far := -600; far <= 600; far++ {
				n := int(uint16(far))
				checkBranch(t, branchLine(op, plus(hereExpr, n)), impl.Table{}, 3, at, far)
				checkBranch(t, branchLine(op, minus(hereExpr, int(-uint16(n)))), impl.Table{}, 3, at, far)
				if far%5 != 0 {
					continue
				}
				there := plus(sectExpr(3), int(uint16(at+far)))
				if there.L[1].N == 0 {
					there = sectExpr(3)
				}
				tab := impl.Table{Syms: []impl.Sym{symOf("there", there)}, Globs: []string{"there"}}
				checkBranch(t, branchLine(op, symExpr("there")), tab, 3, at, far)
				// Of another section it is not known.
				checkLineWordsNot(t, branchLine(op, symExpr("there")), tab, 2, at, impl.ErRange)
			}
			for _, far := range []int{1000, 32766, 32768, 32770, -1000, -32766, 40000, -40000} {
				x := branchLine(op, plus(hereExpr, int(uint16(far))))
				checkLineWordsNot(t, x, impl.Table{}, 3, at, impl.ErRange)
			}
		}
	}
	tab := tableOfNames()
	for _, op := range []string{"br", "bne", "beq", "bge", "blt"} {
		for _, s := range []string{"0", "2", "22", "177777", "a", "both", "g", "<g - g>", "<. - .>", "d", "k", "m", "-.", "<. * 1>", "<. + .>", "<5 / 0>", "<. + g>", "<. + 402>", "<. - 400>", "<. + 3>", "<. + 1>", "<. - 1>", "odd", "<l + 1>", "<. + both>", "<. + 401>", "<. - 377>"} {
			checkNoLineWords(t, op+" "+s, tab, 0, 0o20, impl.ErRange)
		}
		for _, s := range []string{"s", "l", ".", "<. + 400>", "<. - 376>", "<odd + 1>", "<<d - d> + .>", "<<. - l> + l>", "<. + <both + 1>>"} {
			l, code := impl.LineWords(readLines(t, op+" "+s)[0], tab, 0, 0o20)
			if code != impl.ErNone || len(l) != 1 || l[0].K != impl.XNum {
				t.Errorf("LineWords of %s %s: %s, %d", op, s, wordsText(l), code)
			}
		}
	}
}

func TestNumbersOfEmts(t *testing.T) {
	tab := impl.Table{Syms: []impl.Sym{symOf("top", numExpr(255)), symOf("more", numExpr(256)), symOf("l", plus(sectExpr(4), 8)), symOf("m", plus(sectExpr(4), 263)), symOf("far", plus(sectExpr(4), 264))}, Globs: []string{"g", "top"}}
	for n := range 1200 {
		x := impl.Line{K: impl.LIns, Op: impl.OEmt, L: []impl.Expr{numExpr(n)}}
		if n < 256 {
			checkLineWordsOf(t, x, impl.Table{}, 0, 0, fmt.Sprintf("%o", 0o104000+n))
		} else {
			checkLineWordsNot(t, x, impl.Table{}, 0, 0, impl.ErRange)
		}
	}
	for s, want := range map[string]string{"emt top": "104377", "emt <m - l>": "104377", "emt <more - 1>": "104377", "emt <. - .>": "104000", "emt <l - .>": "104010", "emt <3 * 5>": "104017", "emt - <0 - 3>": "104003"} {
		checkLineWords(t, s, tab, 4, 0, want)
	}
	for _, s := range []string{"emt 400", "emt 177777", "emt - 1", "emt 100000", "emt more", "emt <top + 1>", "emt <far - l>", "emt <l - m>", "emt g", "emt <g - g>", "emt .", "emt l", "emt <5 / 0>", "emt <g & 377>", "emt <. - m>"} {
		checkNoLineWords(t, s, tab, 4, 0, impl.ErRange)
	}
}

func TestWordsOfWordsAndBlocks(t *testing.T) {
	tab := tableOfNames()
	terms, texts := []string{"5", ".", "l", "g", "<. - l>", "-g"}, []string{"5", "<s0+20>", "<s0+10>", "@g", "10", "-@g"}
	for count := 1; count <= 6; count++ {
		for from := range 6 {
			var l, want []string
			for i := range count {
				l, want = append(l, terms[(from+i)%6]), append(want, texts[(from+i)%6])
			}
			checkLineWords(t, ".word "+strings.Join(l, " , "), tab, 0, 0o20, strings.Join(want, " "))
		}
	}
	for s, n := range map[string]int{"0": 0, "1": 1, "2": 2, "377": 255, "400": 256, "401": 256, "402": 256, "1000": 256, "177777": 256, "-1": 256, "<0 - 1>": 256, "<200 + 200>": 256, "<200 + 177>": 255, "a": 0, "g": 0, ".": 0, "<. - .>": 0, "<l - s>": 0, "<1 / 0>": 0, "-a": 0} {
		checkLineWords(t, ".blkw "+s, tab, 0, 0o20, strings.TrimSpace(strings.Repeat("0 ", n)))
		checkLineWords(t, ".blkw "+s, tab, 9, 65535, strings.TrimSpace(strings.Repeat("0 ", n)))
	}
	checkLineWordsNot(t, impl.Line{K: impl.LBlk}, tab, 0, 0o20, impl.ErForm)
	checkLineWordsNot(t, impl.Line{K: impl.LWord}, tab, 0, 0o20, impl.ErForm)
}

// usesOf are lines with one term, wherever a word can come of it, and how much is taken off there.
func usesOf(e impl.Expr) map[string]impl.Line {
	arg := func(form int) impl.Arg { return argForms[form].arg(2, e) }
	r := impl.Arg{Reg: 1}
	one := impl.Arg{Form: impl.AImm, E: numExpr(1)}
	ins := func(op int, src, dst impl.Arg) impl.Line {
		return impl.Line{K: impl.LIns, Op: op, Src: src, Dst: dst}
	}
	l := map[string]impl.Line{"emt": {K: impl.LIns, Op: impl.OEmt, L: []impl.Expr{e}}}
	for i, op := range branchOps {
		l[fmt.Sprint("branch", i)] = branchLine(op, e)
	}
	for form := impl.AIdx; form <= impl.ARelI; form++ {
		a := arg(form)
		l[fmt.Sprint("dst", form)] = ins(impl.OClr, impl.Arg{}, a)
		l[fmt.Sprint("jsr", form)] = ins(impl.OJsr, impl.Arg{}, a)
		l[fmt.Sprint("src", form)] = ins(impl.OMov, a, r)
		l[fmt.Sprint("behind a register", form)] = ins(impl.OMov, r, a)
		l[fmt.Sprint("behind a word", form)] = ins(impl.OMov, one, a)
		l[fmt.Sprint("ahead of a word", form)] = ins(impl.OMov, a, one)
	}
	for place := range 6 {
		x := impl.Line{K: impl.LWord, L: slices.Repeat([]impl.Expr{numExpr(1)}, 6)}
		x.L[place] = e
		l[fmt.Sprint("word", place)] = x
	}
	l["alone"] = impl.Line{K: impl.LWord, L: []impl.Expr{e}}
	return l
}

// isLess tells a line whose term has the place behind it taken off.
func isLess(x impl.Line) bool {
	isRel := func(a impl.Arg) bool { return a.Form == impl.ARel || a.Form == impl.ARelI }
	return x.K == impl.LIns && (isRel(x.Src) || isRel(x.Dst) || len(x.L) > 0 && x.Op != impl.OEmt)
}

func TestNamesOfWords(t *testing.T) {
	five, six := numExpr(5), plus(sectExpr(0), 6)
	inSyms := impl.Table{Syms: []impl.Sym{symOf("n", six)}}
	inGlobs := impl.Table{Globs: []string{"n"}}
	inBoth := impl.Table{Syms: []impl.Sym{symOf("n", six)}, Globs: []string{"n"}}
	among := impl.Table{Syms: []impl.Sym{symOf("m", five), symOf("n", six), symOf("nn", five), symOf("n", five)}, Globs: []string{"m", "nn"}}
	amongGlobs := impl.Table{Syms: []impl.Sym{symOf("m", five), symOf("nn", five)}, Globs: []string{"m", "n", "nn"}}
	for s, want := range map[string][2]string{
		".word n": {"<s0+6>", "@n"}, ".word 1 , n": {"1 <s0+6>", "1 @n"}, ".word <n + 2>": {"<s0+10>", "<@n+2>"}, ".word <2 - -n>": {"<2--<s0+6>>", "<2--@n>"},
		"clr #n": {"5027 <s0+6>", "5027 @n"}, "clr n": {"5067 177766", "5067 <@n-<s0+20>>"}, "mov n , n": {"16767 177766 177764", "16767 <@n-<s0+20>> <@n-<s0+22>>"}, "mov #1 , @ n": {"12777 1 177764", "12777 1 <@n-<s0+22>>"},
	} {
		for _, tab := range []impl.Table{inSyms, inBoth, among} {
			checkLineWords(t, s, tab, 0, 0o14, want[0])
		}
		for _, tab := range []impl.Table{inGlobs, amongGlobs, {Globs: []string{"n", "n"}}} {
			checkLineWords(t, s, tab, 0, 0o14, want[1])
		}
	}
	neither := impl.Table{Syms: []impl.Sym{symOf("m", five), symOf("nn", six), symOf("N", six), symOf("", six)}, Globs: []string{"", "a", "nn", "n0"}}
	for _, e := range []impl.Expr{symExpr("n"), negExpr(symExpr("n")), plus(symExpr("n"), 1), pairExpr(impl.XMul, numExpr(0), symExpr("n")), pairExpr(impl.XSub, symExpr("n"), symExpr("n")), pairExpr(impl.XAdd, symExpr("nn"), symExpr("n")), pairExpr(impl.XOr, pairExpr(impl.XAnd, hereExpr, symExpr("a")), symExpr("n")), chain(5, symExpr("n"))} {
		for _, x := range usesOf(e) {
			checkLineWordsNot(t, x, neither, 0, 0o14, impl.ErUndef)
			checkLineWordsNot(t, x, impl.Table{}, 0, 0, impl.ErUndef)
			checkAsTold(t, x, inSyms, 0, 0o14)
			checkAsTold(t, x, inGlobs, 0, 0o14)
			checkAsTold(t, x, among, 5, 0)
		}
	}
	// Neither one that is a section's, nor one that the table has as a section.
	tab := impl.Table{Sects: []impl.Sect{{Name: "code"}, {Name: "n"}}}
	checkNoLineWords(t, ".word n", tab, 0, 0, impl.ErUndef)
	checkNoLineWords(t, ".word code", tab, 0, 0, impl.ErUndef)
	// How many sections a table has is not asked.
	checkLineWords(t, ".word . , n", impl.Table{Syms: []impl.Sym{symOf("n", sectExpr(9))}}, 9, 4, "<s9+4> s9")
}

// No word comes of the terms of other lines, so nothing is asked of them.
func TestLinesThatMakeNoWords(t *testing.T) {
	for _, s := range []string{"", "x :", "x = y", "x = <y + .>", "x = -----.", ".sect x", ".sect x , over", ".globl x", ".globl x , y , z", ".end", ".blkw 0", ".blkw y", ".blkw -----."} {
		for _, at := range []int{0, 2, 65535} {
			for sect := range 10 {
				checkLineWords(t, s, impl.Table{}, sect, at, "")
			}
		}
	}
}

func TestWhereThisCannotStand(t *testing.T) {
	tab := tableOfNames()
	for _, k := range lineKinds {
		x := k.x
		for _, sect := range []int{-1, -2, -9, 10, 11, 256, 65536, 1 << 32, math.MinInt, math.MaxInt} {
			checkLineWordsNot(t, x, tab, sect, 0, impl.ErForm)
			checkLineWordsNot(t, x, impl.Table{}, sect, 0, impl.ErForm)
			checkLineWordsNot(t, x, tab, sect, -1, impl.ErForm)
		}
		for _, at := range noWords {
			for _, sect := range []int{0, 9, 10} {
				checkLineWordsNot(t, x, tab, sect, at, impl.ErForm)
			}
		}
		for sect := range 10 {
			for _, at := range []int{0, 1, 2, 512, 65534, 65535} {
				checkAsTold(t, x, tab, sect, at)
			}
		}
	}
	for _, one := range wrongLines(t) {
		if one.code != impl.ErForm {
			continue
		}
		checkLineWordsNot(t, one.x, tab, 0, 0, impl.ErForm)
		checkLineWordsNot(t, one.x, impl.Table{}, 9, 65535, impl.ErForm)
		checkLineWordsNot(t, one.x, impl.Table{}, 10, 0, impl.ErForm)
	}
	for _, x := range []impl.Line{{K: impl.LEnd, S: "a"}, {K: impl.LEnd, N: 1}, {K: impl.LEnd, L: []impl.Expr{numExpr(1)}}, {K: impl.LIns, Op: impl.OClr, N: 1}, {K: impl.LIns, Op: impl.OClr, Src: impl.Arg{Reg: 1}}, {K: impl.LIns, Op: impl.OBr, N: 1, L: []impl.Expr{hereExpr}}} {
		checkLineWordsNot(t, x, tab, 0, 0, impl.ErForm)
	}
	for _, e := range slices.Concat(wrongTerms(), otherLeaves(), []impl.Expr{ring(1, hereExpr), ring(3, numExpr(1)), chain(6, numExpr(1)), chain(100000, numExpr(1)), doubled(100, hereExpr)}) {
		for what, x := range usesOf(e) {
			if l, code := impl.LineWords(x, tab, 0, 0); code != impl.ErForm || len(l) > 0 {
				t.Errorf("LineWords of a wrong term, %s: %d", what, code)
			}
		}
	}
}

// Of one line the first code that holds counts.
func TestTheFirstCodeOfWords(t *testing.T) {
	none, far := symExpr("none"), plus(hereExpr, 1000)
	for _, op := range branchOps {
		checkLineWordsNot(t, branchLine(op, none), impl.Table{}, 0, 0, impl.ErUndef)
		checkLineWordsNot(t, branchLine(op, pairExpr(impl.XAdd, far, none)), impl.Table{}, 0, 0, impl.ErUndef)
		checkLineWordsNot(t, branchLine(op, far), impl.Table{}, 10, 0, impl.ErForm)
		checkLineWordsNot(t, branchLine(op, none), impl.Table{}, 0, -1, impl.ErForm)
		x := branchLine(op, none)
		x.N = 1
		checkLineWordsNot(t, x, impl.Table{}, 0, 0, impl.ErForm)
	}
	emt := func(e impl.Expr) impl.Line { return impl.Line{K: impl.LIns, Op: impl.OEmt, L: []impl.Expr{e}} }
	checkLineWordsNot(t, emt(none), impl.Table{}, 0, 0, impl.ErUndef)
	checkLineWordsNot(t, emt(plus(none, 256)), impl.Table{}, 0, 0, impl.ErUndef)
	checkLineWordsNot(t, emt(numExpr(256)), impl.Table{}, 10, 0, impl.ErForm)
	checkLineWordsNot(t, emt(chain(5, hereExpr)), impl.Table{}, 0, 0, impl.ErRange)
	checkLineWordsNot(t, emt(chain(5, hereExpr)), impl.Table{}, 0, 2, impl.ErUndef)
	checkLineWordsNot(t, emt(numExpr(65536)), impl.Table{}, 0, 0, impl.ErForm)
	// A wrong operand behind one that is not known, and ahead of it.
	wrong, lacking := impl.Arg{Form: impl.AImm, E: numExpr(65536)}, impl.Arg{Form: impl.AImm, E: none}
	checkLineWordsNot(t, impl.Line{K: impl.LIns, Op: impl.OMov, Src: lacking, Dst: wrong}, impl.Table{}, 0, 0, impl.ErForm)
	checkLineWordsNot(t, impl.Line{K: impl.LIns, Op: impl.OMov, Src: wrong, Dst: lacking}, impl.Table{}, 0, 0, impl.ErForm)
}

func TestWordsSixDeepAndSeven(t *testing.T) {
	g := globExpr("g")
	tab := impl.Table{Syms: []impl.Sym{symOf("n", pairExpr(impl.XDiv, numExpr(1), numExpr(0)))}, Globs: []string{"b", "g"}}
	for deep := 1; deep <= 6; deep++ {
		tab.Syms = append(tab.Syms, symOf(fmt.Sprintf("a%d", deep), chain(deep-1, g)))
	}
	check := func(e impl.Expr, at, deep int) {
		t.Helper()
		for _, x := range usesOf(e) {
			code := checkAsTold(t, x, tab, 4, at)
			if deep > 6 && code != impl.ErUndef || deep < 5 && code == impl.ErUndef {
				t.Errorf("LineWords of %q, %d deep: %d", impl.LineText(x), deep, code)
			}
		}
	}
	for _, w := range wrappers() {
		for times := range 6 {
			check(within(symExpr("g"), w, times), 0, times+1)
			check(within(symExpr("n"), w, times), 0, times+2)
			check(within(hereExpr, w, times), 0, times+1)
			check(within(hereExpr, w, times), 2, times+2)
			for deep := 1; deep <= 6; deep++ {
				check(within(symExpr(fmt.Sprintf("a%d", deep)), w, times), 0, times+deep)
			}
		}
	}
	// What is taken off makes a term one deeper, where it is not folded away.
	tab = impl.Table{Syms: []impl.Sym{symOf("a", chain(2, g))}, Globs: []string{"g"}}
	for _, z := range []struct {
		e        impl.Expr
		at, deep int
	}{{chain(4, symExpr("g")), 0, 5}, {chain(5, symExpr("g")), 0, 6}, {chain(2, symExpr("a")), 0, 5}, {chain(3, symExpr("a")), 0, 6}, {chain(4, symExpr("a")), 0, 7}, {chain(4, hereExpr), 0, 5}, {chain(5, hereExpr), 0, 6}, {chain(3, hereExpr), 8, 5}, {chain(4, hereExpr), 8, 6}, {chain(5, hereExpr), 8, 7}} {
		for what, x := range usesOf(z.e) {
			deep := z.deep
			if isLess(x) {
				deep++
			}
			l, code := impl.LineWords(x, tab, 4, z.at)
			want := impl.ErNone
			switch {
			case deep > 6:
				want = impl.ErUndef
			case len(x.L) == 1 && x.K == impl.LIns:
				want = impl.ErRange
			}
			if code != want {
				t.Errorf("LineWords of a term %d deep, %s: %d, want %d", deep, what, code, want)
			}
			if code == impl.ErNone && !slices.ContainsFunc(l, func(e impl.Expr) bool { return deepOf(e) == deep }) {
				t.Errorf("LineWords of a term %d deep, %s: %s", deep, what, wordsText(l))
			}
		}
	}
	// A term that is folded is as deep as it is then, when the place is taken off.
	for s, want := range map[string]string{
		"clr - - - - - 1": "5067 <177777-<s4+4>>", "clr <<<<<. + 1> + 1> + 1> + 1> + 1>": "5067 1", "mov - - - - - 1 , @ - - - - - 1": "16777 <177777-<s4+4>> <177777-<s4+6>>",
		"br <<<<<. + 1> + 1> + 1> + 1> + 2>": "402", "clr <<<<<g + 1> + 1> + 1> + 1> + 1>": "5067 <<@g+5>-<s4+4>>",
	} {
		checkLineWords(t, s, tab, 4, 0, want)
	}
	checkNoLineWords(t, "br - - - - - 1", tab, 4, 0, impl.ErRange)
	checkNoLineWords(t, "clr <<<<<. + 1> + 1> + 1> + 1> + 1>", tab, 4, 2, impl.ErUndef)
	checkNoLineWords(t, ".word <<<<<. + 1> + 1> + 1> + 1> + 1>", tab, 4, 2, impl.ErUndef)
}

// A worth that is no term is none; where its name is not used, it is not asked for.
func TestTablesThatAreNotRight(t *testing.T) {
	for _, e := range slices.Concat(wrongTerms(), []impl.Expr{chain(6, numExpr(1)), ring(1, hereExpr), ring(4, numExpr(1)), chain(100000, hereExpr), doubled(100, numExpr(1))}) {
		for _, tab := range []impl.Table{{Syms: []impl.Sym{symOf("n", e), symOf("m", numExpr(5))}}, {Syms: []impl.Sym{symOf("m", numExpr(5)), symOf("n", e)}, Globs: []string{"n"}}} {
			for _, x := range usesOf(plus(symExpr("n"), 1)) {
				checkLineWordsNot(t, x, tab, 0, 0, impl.ErUndef)
			}
			checkLineWords(t, "mov #m , m", tab, 0, 0, "12767 5 <5-<s0+6>>")
			checkLineWords(t, ".word m , .", tab, 0, 2, "5 <s0+2>")
		}
	}
	odd := impl.Table{Syms: []impl.Sym{symOf("mov", numExpr(1)), symOf("", numExpr(1)), symOf("n", pairExpr(impl.XAdd, numExpr(2), numExpr(3)))}, Globs: []string{"r0", "", "zz", "sevenle", "aa", "\xff"}}
	checkLineWords(t, ".word n , zz , aa", odd, 0, 0, "5 @zz @aa")
	checkLineWords(t, "mov r0 , n", odd, 0, 0, "10067 <5-<s0+4>>")
}

// anyTable has worths of each kind for some of the names that lines may have.
func anyTable(next func(n int) int) impl.Table {
	var tab impl.Table
	for _, name := range []string{"a", "z", "sixlet", "a00000", "r6", "word", "b", "over"} {
		e := anyTerm(next, 1+next(4), false)
		if next(2) == 0 {
			e = []impl.Expr{numExpr(next(300)), sectExpr(next(4)), plus(sectExpr(next(4)), 1+next(600)), negExpr(sectExpr(next(10)))}[next(4)]
		}
		if next(8) > 0 && !hasStranger(e, 10) {
			tab.Syms = append(tab.Syms, symOf(name, wantFold(e)))
		}
		if next(4) > 0 {
			tab.Globs = append(tab.Globs, name)
		}
	}
	slices.Sort(tab.Globs)
	return tab
}

func TestWordsOfAnyLine(t *testing.T) {
	next := nextOf(16)
	codes := map[int]int{}
	words := 0
	for range 30000 {
		x := anyLine(next)
		if x.K == impl.LIns && len(x.L) > 0 && next(2) == 0 {
			x.L[0] = []impl.Expr{plus(hereExpr, int(uint16(next(560)-280))), symExpr("a"), minus(symExpr("b"), next(8)), numExpr(next(300)), pairExpr(impl.XSub, symExpr("z"), hereExpr)}[next(5)]
		}
		tab, sect, at := anyTable(next), next(4), next(500)
		if next(20) == 0 {
			sect, at = next(12)-1, 65600-next(200)
		}
		if next(40) == 0 {
			x.N++
		}
		codes[checkAsTold(t, x, tab, sect, at)]++
		l, _ := impl.LineWords(x, tab, sect, at)
		words += len(l)
	}
	if codes[impl.ErNone] < 10000 || codes[impl.ErForm] < 500 || codes[impl.ErUndef] < 1000 || codes[impl.ErRange] < 1000 || len(codes) > 4 || words < 20000 {
		t.Error("codes:", codes, "words:", words)
	}
}

// Each line that is right makes as many words as WordsOf it tells, where all names have a worth.
func TestAsManyWordsAsALineHas(t *testing.T) {
	next := nextOf(116)
	tab := impl.Table{Globs: []string{"a", "a00000", "b", "over", "r6", "sixlet", "word", "z"}}
	made := 0
	for range 20000 {
		x := anyLine(next)
		if len(x.L) > 0 && x.K == impl.LIns {
			x.L[0] = numExpr(next(256))
			if x.Op != impl.OEmt {
				x.L[0] = plus(hereExpr, 2*next(100))
			}
		}
		for _, at := range []int{0, 2 * next(256), 65535} {
			l, code := impl.LineWords(x, tab, next(10), at)
			if code == impl.ErUndef && at > 0 {
				continue // deeper than six, by where it stands
			}
			if code == impl.ErNone && len(l) == min(256, impl.WordsOf(x)) {
				made += len(l)
				continue
			}
			if code != impl.ErUndef || !isLess(x) {
				t.Errorf("LineWords of %q at %d: %d words, %d, want %d", impl.LineText(x), at, len(l), code, impl.WordsOf(x))
			}
		}
	}
	if made < 40000 {
		t.Error("words:", made)
	}
}

func TestAssembleWrittenOut(t *testing.T) {
	for s, want := range map[string]string{
		"": "code:", "\n": "code:", ".end\n": "code:", "a :\n": "code:", "a = 5\n": "code:", ".globl a\n": "code:", ".sect d\n": "code:; d:", ".sect d , over\n": "code:; d!:", ".sect code\n": "code:",
		"halt\n":                              "code: 0",
		"halt\n\nhalt\n":                      "code: 0 0",
		".word 1 , 2\n.word 3\n":              "code: 1 2 3",
		".blkw 0\n.word 5\n.blkw 2\n.word 6":  "code: 5 0 0 6",
		"a :\nbr a\nbr b\nb :\n":              "code: 777 400",
		"a :\nclr a\nclr b\nb :\n":            "code: 5067 177774 5067 0",
		"mov a , b\na :\n.word a\nb :\n":      "code: 16767 2 2 <s0+6>",
		"b = 5\nmov #b , a\na = 7\n":          "code: 12767 5 <7-<s0+6>>",
		".word a , b , c\na :\nb = 2\nc :\n":  "code: <s0+6> 2 <s0+6>",
		".word . , . , <. - a>\na :\n.word .": "code: s0 s0 177772 <s0+6>",
		"halt\n.end\nclr none\n.sect d\n":     "code: 0",
		"halt\n.sect d\n.word 1\n.sect code\n.word 2\n.sect d\n.word . , 3\n.sect e\n":            "code: 0 2; d: 1 <s1+2> 3; e:",
		".sect d , over\na :\nhalt\n.sect e , over\nb :\nbr b\n.sect d , over\n.word a , b , .\n": "code:; d!: 0 s1 s2 <s1+2>; e!: 777",
		".sect d\nbr a\na :\n.sect code\nhalt\n.sect d\nbr a\n":                                   "code: 0; d: 400 777",
		"clr d\n.sect d\nd :\nclr a\n.sect code\na :\n":                                           "code: 5067 <s1-<s0+4>>; d: 5067 <<s0+4>-<s1+4>>",
		".globl f\njsr pc , f\njmp @ #f\n.word <f + 2> , <f - f>\n":                               "code: 4767 <@f-<s0+4>> 137 @f <@f+2> <@f-@f>",
		".globl a\na :\nclr a\n":    "code: 5067 177774; a=s0",
		"clr #a\n.globl a\n":        "code: 5027 @a",
		"clr #a\n.globl a\na = 5\n": "code: 5027 5; a=5",
		".globl c , b , a , d\nb :\nhalt\na = 5\n.sect s\nd = <. + 2>\n": "code: 0; s:; a=5 b=s0 d=<s1+2>",
		"c :\nb :\na :\n.globl b\n.globl c , b\n.globl a":                "code:; a=s0 b=s0 c=s0",
		".globl a\n.end\na :\n":                                          "code:",
		"a :\n.end\n.globl a\n":                                          "code:",
		"a = <1 / 0>\n.globl a\n.word a , <a + 1>\n":                     "code: <1/0> <<1/0>+1>; a=<1/0>",
		"n = 3\nemt n\ne :\nemt <e - .>\n":                               "code: 104003 104000",
		".blkw 400\n.sect d\nbr .\n":                                     "code: " + strings.TrimSpace(strings.Repeat("0 ", 256)) + "; d: 777",
		".blkw 377\nend0 :\nbr end0\n":                                   "code: " + strings.Repeat("0 ", 255) + "777",
		"s1 :\nmov #a , r0\nl :\ndec r0\nbne l\njsr pc , f\nmov @ #b , a\na :\n.globl f , s1\n.sect d\nb :": "code: 12700 <s0+22> 5300 1376 4767 <@f-<s0+14>> 13767 s1 0; d:; s1=s0",
	} {
		checkAssembled(t, s, want)
	}
	checkAssembledOf(t, nil, "code:")
	checkAssembledOf(t, []impl.Line{}, "code:")
	checkAssembledOf(t, make([]impl.Line, 1000), "code:")
	checkAssembledOf(t, []impl.Line{{K: impl.LEnd, S: "mov", N: 7}, {K: 9}}, "code:")
	checkAssembledOf(t, []impl.Line{{}, {K: impl.LIns, Op: impl.OHalt}, {K: impl.LEnd, L: []impl.Expr{numExpr(1)}}, {K: impl.LBlk}}, "code: 0")
}

// wrongWords have a line of each code that LineWords has of it, wherever it stands behind aheadOfWords.
const aheadOfWords = "a :\nb = 401\n.globl g , a\n.sect d\nhalt\nk :\n.sect code\nhalt\nm :\n"

func wrongWords() map[string]int {
	return map[string]int{
		"clr none": impl.ErUndef, "mov none , r0": impl.ErUndef, "mov a , none": impl.ErUndef, "mov none , b": impl.ErUndef, "mov #a , @ #none": impl.ErUndef, ".word none": impl.ErUndef, ".word 1 , 2 , none": impl.ErUndef, ".word none , g": impl.ErUndef,
		"br none": impl.ErUndef, "emt none": impl.ErUndef, "jsr pc , none": impl.ErUndef, "clr code": impl.ErUndef, "clr d": impl.ErUndef, ".word <a + none>": impl.ErUndef, ".word -----.": impl.ErUndef, ".word -----m": impl.ErUndef, "clr -----g": impl.ErUndef, "blt -----g": impl.ErUndef,
		"br g": impl.ErRange, "bne k": impl.ErRange, "beq 0": impl.ErRange, "bge <. + 402>": impl.ErRange, "blt <. - 400>": impl.ErRange, "br <. + 1>": impl.ErRange, "emt g": impl.ErRange, "emt b": impl.ErRange, "emt 400": impl.ErRange, "emt .": impl.ErRange, "emt -1": impl.ErRange,
	}
}

func TestCodesOfAssemble(t *testing.T) {
	ahead := readLines(t, aheadOfWords)
	checkAssembledOf(t, ahead, "code: 0; d: 0; a=s0")
	right := readLines(t, "x :\n.word a , g\n.sect e\n.sect code\nbr a\n")
	for s, code := range wrongWords() {
		x := readLines(t, s)
		checkAssembledNot(t, slices.Concat(ahead, x), code, len(ahead))
		checkAssembledNot(t, slices.Concat(ahead, x, right), code, len(ahead))
		checkAssembledNot(t, slices.Concat(ahead, right, x), code, len(ahead)+len(right))
		checkAssembledOf(t, slices.Concat(ahead, []impl.Line{{K: impl.LEnd}}, x), "code: 0; d: 0; a=s0")
		// The first of two lines that are wrong counts.
		for other, otherCode := range wrongWords() {
			y := readLines(t, other)
			checkAssembledNot(t, slices.Concat(ahead, x, y), code, len(ahead))
			checkAssembledNot(t, slices.Concat(ahead, y, right, x), otherCode, len(ahead))
		}
	}
	// At the first line of all.
	for s, code := range map[string]int{"clr a": impl.ErUndef, ".word none": impl.ErUndef, "br none": impl.ErUndef, "clr -----.": impl.ErUndef, "br 0": impl.ErRange, "br <. + 3>": impl.ErRange, "emt 400": impl.ErRange, "emt .": impl.ErRange} {
		checkAssembledNot(t, readLines(t, s), code, 0)
	}
	checkAssembledOf(t, readLines(t, ".word -----.\n"), "code: -----s0")
}

// Each code of Symbols counts ahead of any of the words of lines, even of lines ahead.
func TestCodesOfSymbolsCountAhead(t *testing.T) {
	ahead := append(readLines(t, aheadOfWrong), impl.Line{K: impl.LSect, S: "last"}, impl.Line{K: impl.LSect, S: "h"})
	halt := impl.Line{K: impl.LIns, Op: impl.OHalt}
	for _, one := range wrongLines(t) {
		for s := range wrongWords() {
			x := readLines(t, s)[0]
			checkAssembledNot(t, slices.Concat([]impl.Line{halt, x}, ahead, []impl.Line{one.x}), one.code, len(ahead)+2)
		}
		checkAssembledNot(t, slices.Concat(ahead, []impl.Line{one.x}), one.code, len(ahead))
		checkAssembledNot(t, slices.Concat(ahead, []impl.Line{one.x, halt}), one.code, len(ahead))
		checkAssembledOf(t, slices.Concat(readLines(t, "a :\n.word 1\n"), []impl.Line{{K: impl.LEnd}, one.x}), "code: 1")
	}
	for s, code := range map[string][2]int{
		"clr none\na :\na :\n": {impl.ErTwice, 2}, "br none\n.blkw a\n": {impl.ErConst, 1}, "br 0\na = b\n": {impl.ErUndef, 1}, "emt 400\n.blkw 400\n": {impl.ErSize, 1}, "clr none\n\n.sect code , over": {impl.ErTwice, 2},
		"clr none\n.end\na :\na :\n": {impl.ErUndef, 0},
	} {
		checkAssembledNot(t, readLines(t, s), code[0], code[1])
	}
	checkAssembledNot(t, []impl.Line{{}, {K: 9}}, impl.ErForm, 1)
	checkAssembledNot(t, []impl.Line{branchLine(impl.OBr, numExpr(0)), {K: impl.LLabel}}, impl.ErForm, 1)
}

// globLines have so many names that are seen outside; of the last ones there is no worth.
func globLines(count, without int) []impl.Line {
	var l []impl.Line
	for i := range count + without {
		name := fmt.Sprintf("n%d", (i*13)%(count+without)) // in no order
		l = append(l, impl.Line{K: impl.LGlob, L: []impl.Expr{symExpr(name)}})
	}
	for i := range count {
		l = append(l, setLine(fmt.Sprintf("n%d", i), numExpr(i)))
	}
	return l
}

func TestHowManyNamesAreSeenOutside(t *testing.T) {
	for _, count := range []int{0, 1, 2, 10, 19, 20} {
		for _, without := range []int{0, 1, 5, 30} {
			o, code, at := impl.Assemble(globLines(count, without))
			if code != impl.ErNone || at != -1 || len(o.Globs) != count || !impl.ObjOk(o) {
				t.Errorf("Assemble of %d names and %d without a worth: %d, %d, %s", count, without, code, at, objText(o))
			}
			for i, x := range o.Globs {
				if i > 0 && o.Globs[i-1].Name >= x.Name || fmt.Sprintf("n%d", x.E.N) != x.Name {
					t.Error("seen outside:", objText(o))
				}
			}
		}
	}
	for _, count := range []int{21, 22, 50} {
		for _, without := range []int{0, 1} {
			l := globLines(count, without)
			checkAssembledNot(t, l, impl.ErSize, len(l))
		}
	}
	// All lines count, those behind the end, too.
	l := append(globLines(20, 0), readLines(t, ".globl x\nx :\n")...)
	checkAssembledNot(t, l, impl.ErSize, len(l))
	checkAssembledNot(t, append(l, impl.Line{K: impl.LEnd}, impl.Line{K: 9}, impl.Line{}), impl.ErSize, len(l)+3)
	// A line that is wrong counts ahead of it.
	checkAssembledNot(t, append(l, readLines(t, "br 0\n")...), impl.ErRange, len(l))
	// One that has a worth behind the end alone is none of them.
	l = append(globLines(20, 0), readLines(t, ".globl x\n.end\nx :\n")...)
	if o, code, _ := impl.Assemble(l); code != impl.ErNone || len(o.Globs) != 20 {
		t.Error("Assemble of 20 names and one behind the end:", code)
	}
}

func TestSectionsOfModules(t *testing.T) {
	// All eight, each with all of its words.
	var l []impl.Line
	for i := range 8 {
		if i > 0 {
			l = append(l, impl.Line{K: impl.LSect, S: fmt.Sprintf("s%d", i), N: i % 2})
		}
		l = append(l, impl.Line{K: impl.LLabel, S: fmt.Sprintf("n%d", i)}, wordLine(6), blkLine(249))
	}
	for i := range 8 {
		x := impl.Line{K: impl.LSect, S: fmt.Sprintf("s%d", i), N: i % 2}
		if i == 0 {
			x.S = "code"
		}
		l = append(l, x, branchLine(impl.OBr, hereExpr))
	}
	o, code, at := impl.Assemble(l)
	if code != impl.ErNone || at != -1 || len(o.Sects) != 8 || !impl.ObjOk(o) {
		t.Fatal("Assemble of eight sections:", code, at)
	}
	for i, x := range o.Sects {
		if len(x.Words) != 256 || x.Over != (i%2 == 1) || moduleText(x.Words[255]) != "777" || moduleText(x.Words[5]) != "5" || moduleText(x.Words[6]) != "0" {
			t.Error("section", i, wordsText(x.Words))
		}
	}
	checkAssembledNot(t, append(l, insLine(1)), impl.ErSize, len(l))
	checkAssembledNot(t, append(l, impl.Line{K: impl.LSect, S: "s8"}), impl.ErSize, len(l))
}

func TestAssembleOfManyLines(t *testing.T) {
	var l []impl.Line
	for i := range 30000 {
		l = append(l, impl.Line{K: impl.LLabel, S: fmt.Sprintf("n%d", i)})
	}
	l = append(l, readLines(t, ".word n0 , n29999\n")...)
	checkAssembledOf(t, l, "code: s0 s0")
	checkAssembledNot(t, append(l, readLines(t, ".word n30000\n")...), impl.ErUndef, len(l))
}

func checkAssembledText(t *testing.T, s, want string) {
	t.Helper()
	o, code, at := impl.AssembleText(s)
	if got := objText(o); code != impl.ErNone || at != -1 || got != want || !impl.ObjOk(o) {
		t.Errorf("AssembleText of %.300q: %.300s, %d, %d, want %.300s", s, got, code, at, want)
	}
}

func checkAssembledTextNot(t *testing.T, s string, wantCode, wantAt int) {
	t.Helper()
	o, code, at := impl.AssembleText(s)
	if code != wantCode || at != wantAt || len(o.Sects)+len(o.Globs) > 0 {
		t.Errorf("AssembleText of %.300q: %.300s, %d, %d, want %d, %d", s, objText(o), code, at, wantCode, wantAt)
	}
}

func TestAssembleTexts(t *testing.T) {
	for s, want := range map[string]string{
		"": "code:", "\n\n": "code:", ";no\n": "code:", "halt": "code: 0", "halt\n": "code: 0", " halt ; stop\n\tclr\tr0": "code: 0 5000", "a:\n.word a ,.": "code: s0 s0",
		".rept 3\nhalt\n.endr\n": "code: 0 0 0",
		".rept 0\nhalt\n.endr\n": "code:",
		".macro push x\nmov x , - ( sp )\n.endm\npush #5\npush r1\n":      "code: 12746 5 10146",
		".macro two a , b\n.word a\n.word b\n.endm\nl :\ntwo l , <l+2>\n": "code: s0 <s0+2>",
		".macro m\n.macro n\n.word 1\n.endm\nn\n.endm\nm\nn\n":            "code: 1 1",
		".macro m\nhalt\n.endm\n":                                         "code:",
		".macro f n\n.globl n\nn :\n.endm\nf b\nhalt\nf a\n":              "code: 0; a=<s0+2> b=s0",
		"halt\n.end\nmov r0 , r1\nclr none\n":                             "code: 0",
		".rept 2\n.word .\n.endr\n.sect d\n.rept 2\nbr .\n.endr\n":        "code: s0 <s0+2>; d: 777 777",
		strings.Repeat("halt\n", 100):                                     "code:" + strings.Repeat(" 0", 100),
		".rept 144\nhalt\n.endr\n":                                        "code:" + strings.Repeat(" 0", 100),
		strings.Repeat("\n", 99) + "halt":                                 "code: 0",
	} {
		checkAssembledText(t, s, want)
	}
	for s, want := range map[string][2]int{
		// What cannot be expanded: a macro that is open, or nothing that begins, and lines that are none.
		".macro m\nhalt\n": {impl.ErForm, 0}, "halt\n.macro m\nhalt\n": {impl.ErForm, 0}, "halt\nhalt\n.endm\n": {impl.ErForm, 0}, "halt\n.endr\n": {impl.ErForm, 0}, ".rept 2\nhalt\n": {impl.ErForm, 0}, "halt\n.rept x\n.endr\n": {impl.ErForm, 0}, "halt\n.macro m\nm\n.endm\nm\n": {impl.ErForm, 0},
		"halt\nHALT\n": {impl.ErForm, 0}, "halt\n9\n": {impl.ErForm, 0}, "halt\nsevenle :\n": {impl.ErForm, 0}, "a :\na :\n?\n": {impl.ErForm, 0}, "mov\n.endm\n": {impl.ErForm, 0}, strings.Repeat("\n", 201): {impl.ErForm, 0}, ".rept 311\nhalt\n.endr\n": {impl.ErForm, 0},
		// What is expanded and cannot be read.
		"mov\n": {impl.ErForm, 0}, "a : halt\n": {impl.ErForm, 0}, "halt\nmov\n": {impl.ErForm, 1}, "halt\n\nclr\nmov\n": {impl.ErForm, 2}, "a :\na :\nmov\n": {impl.ErForm, 2}, "clr none\nmov": {impl.ErForm, 1}, "halt\n.end\nmov\n": {impl.ErForm, 2}, ".rept 3\nhalt\n.endr\nmov\n": {impl.ErForm, 3}, ".macro m\nhalt\nmov\n.endm\nm\nm\n": {impl.ErForm, 1}, "halt\na\n": {impl.ErForm, 1}, ".word\n": {impl.ErForm, 0},
		strings.Repeat("halt\n", 101): {impl.ErForm, 100}, ".rept 145\nhalt\n.endr\n": {impl.ErForm, 100}, ".rept 310\n\n.endr\n": {impl.ErForm, 100}, strings.Repeat("\n", 200): {impl.ErForm, 100}, "mov\n" + strings.Repeat("\n", 150): {impl.ErForm, 0}, ".end\n" + strings.Repeat("\n", 100): {impl.ErForm, 100},
		// What is read and cannot be assembled: the line's place is that of what is expanded.
		"a :\na :\n": {impl.ErTwice, 1}, "halt\nclr none\n": {impl.ErUndef, 1}, "br 0\n": {impl.ErRange, 0}, ".blkw 401": {impl.ErConst, 0}, ".blkw 400\nhalt": {impl.ErSize, 1}, ".rept 3\nhalt\n.endr\nbr 0\n": {impl.ErRange, 3}, ".macro m\nhalt\nclr none\n.endm\n\nm\n": {impl.ErUndef, 2}, ".rept 2\na :\n.endr": {impl.ErTwice, 1},
	} {
		checkAssembledTextNot(t, s, want[0], want[1])
	}
}

func TestAssembleTextsOfManyNames(t *testing.T) {
	names := func(count int) string {
		var b strings.Builder
		for i := range count {
			fmt.Fprintf(&b, ".globl n%d\nn%d = %o\n", i, i, i)
		}
		return b.String()
	}
	if o, code, at := impl.AssembleText(names(20)); code != impl.ErNone || at != -1 || len(o.Globs) != 20 {
		t.Error("AssembleText of 20 names:", code, at)
	}
	checkAssembledTextNot(t, names(21), impl.ErSize, 42)
	checkAssembledTextNot(t, names(21)+".end\n\n", impl.ErSize, 44)
	checkAssembledTextNot(t, ".rept 3\nhalt\n.endr\n"+names(21), impl.ErSize, 45)
}

// fullObj meets each limit exactly.
func fullObj() impl.Obj {
	var o impl.Obj
	for i := range 8 {
		x := impl.Sect{Name: fmt.Sprintf("s%d", 7-i), Over: i%3 == 0}
		for j := range 256 {
			x.Words = append(x.Words, []impl.Expr{numExpr(65535), chain(5, sectExpr(7)), plus(globExpr("sixlet"), 65535), pairExpr(impl.XSub, sectExpr(0), sectExpr(7)), pairExpr(impl.XDiv, numExpr(1), numExpr(0))}[j%5])
		}
		o.Sects = append(o.Sects, x)
	}
	for i := range 20 {
		o.Globs = append(o.Globs, impl.Glob{Name: fmt.Sprintf("g%02d", i), E: []impl.Expr{numExpr(i), plus(sectExpr(7), i+1), globExpr("g00"), chain(5, globExpr("a"))}[i%4]})
	}
	return o
}

func copyObj(o impl.Obj) impl.Obj {
	c := impl.Obj{Globs: slices.Clone(o.Globs)}
	for _, x := range o.Sects {
		x.Words = slices.Clone(x.Words)
		c.Sects = append(c.Sects, x)
	}
	return c
}

func TestObjOkOfEachLimit(t *testing.T) {
	one := numExpr(1)
	checkObjOk(t, "nothing", impl.Obj{}, true)
	checkObjOk(t, "empty lists", impl.Obj{Sects: []impl.Sect{}, Globs: []impl.Glob{}}, true)
	checkObjOk(t, "a section", impl.Obj{Sects: []impl.Sect{{Name: "a"}}}, true)
	checkObjOk(t, "a glob", impl.Obj{Globs: []impl.Glob{{Name: "a", E: one}}}, true)
	checkObjOk(t, "names alike", impl.Obj{Sects: []impl.Sect{{Name: "a"}, {Name: "b", Over: true}}, Globs: []impl.Glob{{Name: "a", E: globExpr("a")}, {Name: "b", E: sectExpr(1)}}}, true)
	checkObjOk(t, "all limits", fullObj(), true)
	turn := func(what string, want bool, change func(o *impl.Obj)) {
		t.Helper()
		o := copyObj(fullObj())
		change(&o)
		checkObjOk(t, what, o, want)
	}
	turn("nine sections", false, func(o *impl.Obj) { o.Sects = append(o.Sects, impl.Sect{Name: "new"}) })
	turn("21 globs", false, func(o *impl.Obj) { o.Globs = append(o.Globs, impl.Glob{Name: "new", E: one}) })
	turn("20 globs", true, func(o *impl.Obj) { o.Globs = append(o.Globs[1:], impl.Glob{Name: "new", E: one}) })
	for i := range 8 {
		turn("257 words", false, func(o *impl.Obj) { o.Sects[i].Words = append(o.Sects[i].Words, one) })
		turn("255 words", true, func(o *impl.Obj) { o.Sects[i].Words = o.Sects[i].Words[1:] })
		turn("no words", true, func(o *impl.Obj) { o.Sects[i].Words = nil })
		for j := range i {
			turn("two sections of a name", false, func(o *impl.Obj) { o.Sects[i].Name = o.Sects[j].Name })
			turn("two sections of a name", false, func(o *impl.Obj) {
				o.Sects[i].Name, o.Sects[i].Over, o.Sects[j].Over = o.Sects[j].Name, true, false
			})
		}
	}
	for i := 1; i < 20; i++ {
		turn("two globs of a name", false, func(o *impl.Obj) { o.Globs[i].Name = o.Globs[i-1].Name })
		turn("globs not ascending", false, func(o *impl.Obj) { o.Globs[i-1], o.Globs[i] = o.Globs[i], o.Globs[i-1] })
		turn("globs not ascending", false, func(o *impl.Obj) { o.Globs[i].Name = "a" })
	}
	turn("a beginning ahead", true, func(o *impl.Obj) { o.Globs[0].Name, o.Globs[1].Name = "g0", "g00" })
	turn("a beginning behind", false, func(o *impl.Obj) { o.Globs[0].Name, o.Globs[1].Name = "g00", "g0" })
	// A section less than there are, which others name.
	turn("seven sections", false, func(o *impl.Obj) { o.Sects = o.Sects[:7] })
	turn("no section", false, func(o *impl.Obj) { o.Sects = nil })
	for n := range 10 {
		for count := range 9 {
			o := impl.Obj{Globs: []impl.Glob{{Name: "a", E: negExpr(sectExpr(n))}}}
			for i := range count {
				o.Sects = append(o.Sects, impl.Sect{Name: fmt.Sprintf("s%d", i)})
			}
			checkObjOk(t, fmt.Sprint("a glob of section ", n, " of ", count), o, n < count)
			if count > 0 {
				o.Globs = nil
				o.Sects[0].Words = []impl.Expr{numExpr(0), plus(sectExpr(n), 2)}
				checkObjOk(t, fmt.Sprint("a word of section ", n, " of ", count), o, n < count)
			}
		}
	}
}

func TestObjOkOfNames(t *testing.T) {
	for _, s := range []string{"a", "z", "a0", "sixlet", "code", "over", "r6", "mova", "zzzzzz"} {
		checkObjOk(t, s, impl.Obj{Sects: []impl.Sect{{Name: s}}}, true)
		checkObjOk(t, s, impl.Obj{Globs: []impl.Glob{{Name: s, E: numExpr(1)}}}, true)
	}
	for _, s := range append([]string{"", "sevenle", "A", "0a", ".", ".a", "a.", "a b", " a", "a ", "a\n", "a_", "\x00", "a\xff", "\u00e4"}, keptTexts...) {
		checkObjOk(t, s, impl.Obj{Sects: []impl.Sect{{Name: s}}}, false)
		checkObjOk(t, s, impl.Obj{Sects: []impl.Sect{{Name: "a"}, {Name: s, Words: []impl.Expr{numExpr(1)}}}}, false)
		checkObjOk(t, s, impl.Obj{Globs: []impl.Glob{{Name: s, E: numExpr(1)}}}, false)
	}
}

// wantTermOk is what the document asks of a word of a module with so many sections, apart from the program.
func wantTermOk(e impl.Expr, sects int) bool {
	return impl.ExprOk(e) && sameTerm(wantFold(e), e) && !hasStranger(e, sects)
}

// hasStranger tells what no module with so many sections has in a term.
func hasStranger(e impl.Expr, sects int) bool {
	if e.K == impl.XSym || e.K == impl.XHere || e.K == impl.XSect && e.N >= sects {
		return true
	}
	return slices.ContainsFunc(e.L, func(x impl.Expr) bool { return hasStranger(x, sects) })
}

func checkTermOfObj(t *testing.T, e impl.Expr, sects int, want bool) {
	t.Helper()
	var l []impl.Sect
	for i := range sects {
		l = append(l, impl.Sect{Name: fmt.Sprintf("s%d", i), Words: []impl.Expr{numExpr(0), numExpr(1)}})
	}
	what := fmt.Sprintf("%.200s beside %d sections", fmt.Sprint(e.K, e.N, e.S, len(e.L)), sects)
	checkObjOk(t, what, impl.Obj{Sects: l, Globs: []impl.Glob{{Name: "a", E: numExpr(1)}, {Name: "b", E: e}}}, want)
	if sects == 0 {
		return
	}
	for _, place := range []int{0, 1} {
		l[sects-1].Words[place] = e
		checkObjOk(t, what, impl.Obj{Sects: l}, want)
		l[sects-1].Words[place] = numExpr(1)
	}
}

func TestObjOkOfTerms(t *testing.T) {
	for _, sects := range []int{0, 1, 2, 8} {
		for _, e := range smallTerms(2, append(plainLeaves(), otherLeaves()...)) {
			checkTermOfObj(t, e, sects, wantTermOk(e, sects))
		}
		for _, e := range slices.Concat(wrongTerms(), []impl.Expr{ring(1, numExpr(1)), ring(3, hereExpr), chain(100000, globExpr("a")), doubled(100, globExpr("a")), symExpr("a"), hereExpr}) {
			checkTermOfObj(t, e, sects, false)
		}
		// Not folded, or something in it that no module has, however deep.
		for _, w := range wrappers() {
			for times := range 5 {
				for _, e := range []impl.Expr{plus(numExpr(1), 1), minus(globExpr("a"), 1), plus(globExpr("a"), 0), pairExpr(impl.XAdd, numExpr(1), globExpr("a")), negExpr(numExpr(1))} {
					checkTermOfObj(t, within(e, w, times), sects, false)
				}
				checkTermOfObj(t, within(symExpr("a"), w, times), sects, false)
				checkTermOfObj(t, within(hereExpr, w, times), sects, false)
			}
			for times := range 7 {
				for _, e := range []impl.Expr{globExpr("a"), sectExpr(0), sectExpr(1), sectExpr(7), sectExpr(8)} {
					if e = within(e, w, times); times < 6 {
						checkTermOfObj(t, e, sects, wantTermOk(e, sects))
					} else {
						checkTermOfObj(t, e, sects, false)
					}
				}
			}
		}
	}
	next := nextOf(216)
	right := 0
	for range 20000 {
		e, sects := anyTerm(next, 6, false), next(9)
		if next(2) == 0 {
			e = termOver(next, 1+next(6), []impl.Expr{globExpr("a"), sectExpr(next(9)), numExpr(next(3))})
		}
		if next(2) == 0 {
			e = wantFold(e)
		}
		want := wantTermOk(e, sects)
		checkTermOfObj(t, e, sects, want)
		if want {
			right++
		}
	}
	if right < 2000 {
		t.Error("right:", right)
	}
}

// wantAssembled is what the document tells of all of it, apart from the program.
func wantAssembled(l []impl.Line) (string, int, int) {
	w, code, at := toldOf(l)
	if code != impl.ErNone {
		return "", code, at
	}
	tab := w.table()
	var o impl.Obj
	for _, x := range tab.Sects {
		o.Sects = append(o.Sects, impl.Sect{Name: x.Name, Over: x.Over})
	}
	in := 0
	for at, x := range l {
		if x.K == impl.LEnd {
			break
		}
		if x.K == impl.LSect {
			in = w.sectAt(x.S)
		}
		words, code := toldWords(x, tab, in, 2*len(o.Sects[in].Words))
		if code != impl.ErNone {
			return "", code, at
		}
		o.Sects[in].Words = append(o.Sects[in].Words, words...)
	}
	for _, name := range tab.Globs {
		if at := slices.Index(w.names, name); at >= 0 {
			o.Globs = append(o.Globs, impl.Glob{Name: name, E: w.vals[at]})
		}
	}
	if len(o.Globs) > 20 {
		return "", impl.ErSize, len(l)
	}
	return objText(o), impl.ErNone, -1
}

// A maker makes lines over a few names, each of which it labels, sets or has seen outside at some time, mostly.
type maker struct {
	next   func(n int) int
	names  []string
	unused []string
}

func newMaker(next func(n int) int) *maker {
	m := &maker{next: next}
	for i := range 4 + next(20) {
		m.names = append(m.names, fmt.Sprintf("n%d", i))
	}
	m.unused = slices.Clone(m.names)
	return m
}

func (m *maker) name() string { return m.names[m.next(len(m.names))] }

func (m *maker) term() impl.Expr {
	return termOver(m.next, 1+m.next(4), []impl.Expr{hereExpr, symExpr(m.name()), symExpr(m.name()), numExpr(m.next(9)), numExpr(2 * m.next(9))})
}

func (m *maker) arg() impl.Arg {
	e := m.term()
	if m.next(2) == 0 {
		e = symExpr(m.name())
	}
	return argForms[m.next(12)].arg(m.next(8), e)
}

func (m *maker) ins() impl.Line {
	k := insKinds()[m.next(23)]
	x := k.x
	x.N = m.next(k.highestN + 1)
	if k.src {
		x.Src = m.arg()
	}
	if k.dst {
		x.Dst = m.arg()
	}
	if len(x.L) > 0 {
		e := numExpr(m.next(258))
		if x.Op != impl.OEmt {
			e = []impl.Expr{plus(hereExpr, 2*m.next(128)), plus(hereExpr, 2*m.next(128)), minus(hereExpr, 2*m.next(127)), minus(hereExpr, 2*m.next(127)), symExpr(m.name())}[m.next(5)]
		}
		x.L = []impl.Expr{e}
	}
	return x
}

// take uses one of the names that are not used yet, none where there is none.
func (m *maker) take() (string, bool) {
	if len(m.unused) == 0 {
		return "", false
	}
	at := m.next(len(m.unused))
	name := m.unused[at]
	m.unused = slices.Delete(m.unused, at, at+1)
	return name, true
}

func (m *maker) line() impl.Line {
	switch m.next(10) {
	case 0, 1:
		if name, ok := m.take(); ok {
			return impl.Line{K: impl.LLabel, S: name}
		}
	case 2:
		if name, ok := m.take(); ok {
			return setLine(name, []impl.Expr{hereExpr, numExpr(m.next(9)), plus(hereExpr, m.next(9)), negExpr(hereExpr)}[m.next(4)])
		}
	case 3:
		return impl.Line{K: impl.LGlob, L: []impl.Expr{symExpr(m.name()), symExpr(m.name())}}
	case 4:
		n := m.next(6)
		x := impl.Line{K: impl.LSect, S: []string{"code", "o1", "a", "o2", "b", "c"}[n]}
		if x.S[0] == 'o' {
			x.N = 1
		}
		return x
	case 5:
		return impl.Line{K: impl.LWord, L: []impl.Expr{m.term(), symExpr(m.name())}}
	case 6:
		return blkLine([]int{0, 1, 2, 5, 20, 100}[m.next(6)])
	case 7:
		if m.next(30) == 0 {
			return impl.Line{K: impl.LEnd}
		}
		return impl.Line{}
	}
	return m.ins()
}

func (m *maker) lines() []impl.Line {
	var l []impl.Line
	for range m.next(30) {
		l = append(l, m.line())
	}
	for m.next(12) > 0 {
		name, ok := m.take()
		if !ok {
			break
		}
		x := impl.Line{K: impl.LLabel, S: name}
		if m.next(2) == 0 {
			x = impl.Line{K: impl.LGlob, L: []impl.Expr{symExpr(name)}}
		}
		l = slices.Insert(l, m.next(len(l)+1), x)
	}
	return l
}

// checkEachLine wants that what each line makes stands where it stands.
func checkEachLine(t *testing.T, l []impl.Line, o impl.Obj) {
	t.Helper()
	tab, _, _ := impl.Symbols(l)
	from := make([]int, len(tab.Sects))
	in := 0
	for _, x := range l {
		if x.K == impl.LEnd {
			break
		}
		if x.K == impl.LSect {
			in = slices.IndexFunc(tab.Sects, func(s impl.Sect) bool { return s.Name == x.S })
		}
		words, code := impl.LineWords(x, tab, in, 2*from[in])
		to := from[in] + impl.WordsOf(x)
		if code != impl.ErNone || to > len(o.Sects[in].Words) || !sameTerms(words, o.Sects[in].Words[from[in]:to]) {
			t.Fatalf("the words of %q of %d at %d, of %q: %s, %d", impl.LineText(x), in, 2*from[in], impl.TextOf(l), wordsText(words), code)
		}
		from[in] = to
	}
	for i, x := range tab.Sects {
		if len(x.Words) != len(o.Sects[i].Words) || from[i] != len(x.Words) || x.Name != o.Sects[i].Name || x.Over != o.Sects[i].Over {
			t.Errorf("section %d: %s, %d words, want %s, %d", i, o.Sects[i].Name, len(o.Sects[i].Words), x.Name, len(x.Words))
		}
	}
}

func TestAssembleOfAnyLines(t *testing.T) {
	next := nextOf(316)
	codes := map[int]int{}
	words, globs := 0, 0
	for i := range 6000 {
		l := newMaker(next).lines()
		if i%6 == 0 {
			w := newToldTable()
			l = nil
			for range next(20) {
				x := w.tellingLine(next)
				l = append(l, x)
				if w.code(x) == impl.ErNone && x.K != impl.LEnd {
					w.take(x)
				}
			}
		}
		want, wantCode, wantAt := wantAssembled(l)
		o, code, at := impl.Assemble(l)
		if s := objText(o); s != want || code != wantCode || at != wantAt {
			t.Fatalf("Assemble of %q: %s, %d, %d, want %s, %d, %d", impl.TextOf(l), s, code, at, want, wantCode, wantAt)
		}
		codes[code]++
		if code != impl.ErNone {
			continue
		}
		if !impl.ObjOk(o) {
			t.Fatalf("Assemble of %q is not ObjOk: %s", impl.TextOf(l), objText(o))
		}
		checkEachLine(t, l, o)
		globs += len(o.Globs)
		for _, x := range o.Sects {
			words += len(x.Words)
		}
		// The same of the text of these lines, where each has one.
		if slices.ContainsFunc(l, func(x impl.Line) bool { return !impl.LineOk(x) }) {
			continue
		}
		if b, code, at := impl.AssembleText(impl.TextOf(l)); code != impl.ErNone || at != -1 || objText(b) != want {
			t.Fatalf("AssembleText of %q: %s, %d, %d, want %s", impl.TextOf(l), objText(b), code, at, want)
		}
	}
	for _, code := range []int{impl.ErForm, impl.ErTwice, impl.ErUndef, impl.ErRange, impl.ErConst, impl.ErSize} {
		if codes[code] < 10 {
			t.Error("codes:", codes)
		}
	}
	if codes[impl.ErNone] < 2000 || words < 30000 || globs < 3000 {
		t.Error("codes:", codes, "words:", words, "seen outside:", globs)
	}
}

func roomsOfObj(o impl.Obj) []room {
	tab := impl.Table{Sects: o.Sects}
	l := roomsOfTable(tab)
	if cap(o.Globs) > 0 {
		from := uintptr(unsafe.Pointer(unsafe.SliceData(o.Globs)))
		l = append(l, room{from, from + uintptr(cap(o.Globs))*unsafe.Sizeof(impl.Glob{})})
	}
	for _, x := range o.Globs {
		l = append(l, roomsOf(x.E)...)
	}
	return l
}

func namesOfObj(o impl.Obj) []string {
	l := namesOfTable(impl.Table{Sects: o.Sects})
	for _, x := range o.Globs {
		l = append(append(l, x.Name), namesOf(x.E)...)
	}
	return l
}

const manyWords = "sixlet :\nmov sixlet , <other + 2>\none = <. + .>\n.globl two , one , sixlet , other , one\ntwo = <one - one>\nbr sixlet\nemt 5\n.word one , one , . , other , <one + <other + two>>\n.sect sect , over\nclr one\n.blkw 3\n.sect more\njsr pc , @ other\n.sect code\n.word two\n"

func TestModulesAreNewMemory(t *testing.T) {
	l := readLines(t, manyWords)
	for i := range l {
		l[i].S = strings.Clone(l[i].S)
	}
	one, code, _ := impl.Assemble(l)
	two, again, _ := impl.Assemble(l)
	if code != impl.ErNone || again != impl.ErNone {
		t.Fatal("codes", code, again)
	}
	rooms := append(roomsOfObj(one), roomsOfObj(two)...)
	if len(rooms) < 50 {
		t.Error("lists:", len(rooms))
	}
	for _, x := range l {
		rooms = append(rooms, roomsOfLine(x)...)
		for _, arg := range namesOfLine(x) {
			for _, name := range namesOfObj(one) {
				if shareText(name, arg) {
					t.Errorf("%q shares an argument's memory", name)
				}
			}
		}
	}
	checkRoomsApart(t, rooms)
	want := objText(two)
	for _, x := range one.Sects {
		scribble(impl.Expr{L: x.Words})
	}
	for _, x := range one.Globs {
		scribble(x.E)
	}
	clear(one.Sects[:cap(one.Sects)])
	clear(one.Globs[:cap(one.Globs)])
	three, _, _ := impl.Assemble(l)
	clear(l)
	if objText(two) != want || objText(three) != want {
		t.Errorf("answers share memory: %s, %s, want %s", objText(two), objText(three), want)
	}
	// Of a text, whose names are cut out of it.
	s := strings.Clone(manyWords)
	o, code, _ := impl.AssembleText(s)
	if code != impl.ErNone || objText(o) != want {
		t.Errorf("AssembleText: %s, %d, want %s", objText(o), code, want)
	}
	for _, name := range namesOfObj(o) {
		if shareText(name, s) {
			t.Errorf("%q shares the text's memory", name)
		}
	}
}

func TestWordsAreNewMemory(t *testing.T) {
	name, other := strings.Repeat("n", 2), strings.Repeat("g", 2)
	tab := impl.Table{Syms: []impl.Sym{symOf(name, roomyExpr(pairExpr(impl.XMul, globExpr(other), plus(sectExpr(1), 2))))}, Globs: []string{other}}
	worth := tab.Syms[0].E
	for s, e := range map[string]impl.Expr{"name": symExpr(name), "other": symExpr(other), "both": pairExpr(impl.XDiv, symExpr(name), plus(symExpr(other), 2)), "here": pairExpr(impl.XDiv, hereExpr, hereExpr)} {
		x := impl.Line{K: impl.LWord, L: []impl.Expr{e, e, negExpr(e)}}
		y := impl.Line{K: impl.LIns, Op: impl.OMov, Src: impl.Arg{Form: impl.ARel, E: e}, Dst: impl.Arg{Form: impl.AIdx, Reg: 1, E: e}}
		for _, x := range []impl.Line{x, y} {
			a, code := impl.LineWords(x, tab, 0, 2)
			b, _ := impl.LineWords(x, tab, 0, 2)
			if code != impl.ErNone || len(a) != 3 {
				t.Fatal(s, code)
			}
			answer := append(roomsOf(impl.Expr{L: a}), roomsOf(impl.Expr{L: b})...)
			checkRoomsApart(t, slices.Concat(answer, roomsOf(worth)))
			// The line's own terms are shared among themselves here: each is held against the answers alone.
			for _, mine := range roomsOfLine(x) {
				for _, theirs := range answer {
					if mine.from < theirs.to && theirs.from < mine.to {
						t.Error("an argument's memory is handed out:", s)
					}
				}
			}
			checkNamesApart(t, impl.Expr{L: a}, name, other)
			want := wordsText(b)
			scribble(impl.Expr{L: a})
			if c, _ := impl.LineWords(x, tab, 0, 2); wordsText(b) != want || wordsText(c) != want {
				t.Errorf("answers share memory: %s, %s, want %s", wordsText(b), wordsText(c), want)
			}
		}
		checkRoomy(t, worth, pairExpr(impl.XMul, globExpr(other), plus(sectExpr(1), 2)))
	}
	// A block's words, too, are written apart.
	a, _ := impl.LineWords(blkLine(5), tab, 0, 0)
	b, _ := impl.LineWords(blkLine(5), tab, 0, 0)
	a[0].N = 7
	if wordsText(b) != "0 0 0 0 0" || wordsText(a) != "7 0 0 0 0" {
		t.Error("blocks share memory")
	}
}

// roomyLine has room behind each list.
func roomyLine(x impl.Line) impl.Line {
	x.Src.E, x.Dst.E = roomyExpr(x.Src.E), roomyExpr(x.Dst.E)
	x.L = roomyExpr(impl.Expr{L: x.L}).L
	return x
}

func checkRoomyLine(t *testing.T, x, was impl.Line) {
	t.Helper()
	if !sameLine(x, was) {
		t.Error("an argument is written")
	}
	checkRoomy(t, x.Src.E, was.Src.E)
	checkRoomy(t, x.Dst.E, was.Dst.E)
	checkRoomy(t, impl.Expr{L: x.L}, impl.Expr{L: was.L})
}

// Neither arguments are written, nor what lies behind their lists, which is not read, either.
func TestAssemblingWritesNothing(t *testing.T) {
	next := nextOf(416)
	for range 600 {
		was := newMaker(next).lines()
		count := len(was)
		l := make([]impl.Line, 0, count+2)
		for _, x := range was {
			l = append(l, roomyLine(x))
		}
		behind := []impl.Line{{K: impl.LIns, Op: impl.OHalt}, {K: 9}}
		l = append(l, behind...)[:count]
		want, wantCode, wantAt := wantAssembled(was)
		if o, code, at := impl.Assemble(l); objText(o) != want || code != wantCode || at != wantAt {
			t.Errorf("Assemble with room behind: %s, %d, %d, want %s, %d, %d", objText(o), code, at, want, wantCode, wantAt)
		}
		for i, x := range was {
			checkRoomyLine(t, l[i], x)
		}
		if !sameLines(l[count:count+2], behind) {
			t.Error("what lies behind the lines is written")
		}
	}
	for range 2000 {
		was, tab := anyLine(next), anyTable(next)
		roomy := impl.Table{Globs: append(slices.Clone(tab.Globs), "b", "a")[:len(tab.Globs)]}
		for _, x := range tab.Syms {
			roomy.Syms = append(roomy.Syms, symOf(x.Name, roomyExpr(x.E)))
		}
		roomy.Syms = append(roomy.Syms, symOf("z", numExpr(3)))[:len(tab.Syms)]
		x := roomyLine(was)
		checkAsTold(t, x, roomy, next(10), next(500))
		checkRoomyLine(t, x, was)
		for i, x := range tab.Syms {
			if roomy.Syms[i].Name != x.Name {
				t.Error("a table is written")
			}
			checkRoomy(t, roomy.Syms[i].E, x.E)
		}
		if !slices.Equal(roomy.Globs, tab.Globs) {
			t.Error("a table is written")
		}
	}
	o := fullObj()
	for i := range o.Sects {
		o.Sects[i].Words = roomyExpr(impl.Expr{L: o.Sects[i].Words}).L
	}
	// What lies behind is wrong in a module: a name.
	checkObjOk(t, "a module with room behind", impl.Obj{Sects: append(o.Sects, impl.Sect{})[:8], Globs: append(o.Globs, impl.Glob{})[:20]}, true)
	for i, x := range fullObj().Sects {
		checkRoomy(t, impl.Expr{L: o.Sects[i].Words}, impl.Expr{L: x.Words})
	}
}

// Nothing is kept from one call to the next, not of what is refused, either.
func TestModulesHangOnNothingAhead(t *testing.T) {
	tab := tableOfNames()
	for range 3 {
		checkAssembled(t, "a :\nclr a\n.globl a\n.sect d\nhalt\n", "code: 5067 177774; d: 0; a=s0")
		checkAssembledNot(t, readLines(t, ".sect d\n.word 1\n.globl b\nb :\nbr 0\n"), impl.ErRange, 4)
		checkAssembled(t, ".globl g\nclr #g\n", "code: 5027 @g")
		checkAssembledNot(t, readLines(t, "clr #g\n"), impl.ErUndef, 0)
		checkLineWords(t, "clr #g", tab, 0, 0, "5027 @g")
		checkNoLineWords(t, "clr #g", impl.Table{}, 0, 0, impl.ErUndef)
		checkLineWords(t, "clr .", impl.Table{}, 1, 4, "5067 177774")
		checkAssembled(t, "", "code:")
		checkAssembledTextNot(t, ".macro m\nhalt\n", impl.ErForm, 0)
		checkAssembledText(t, "halt\n", "code: 0")
		checkObjOk(t, "no module", impl.Obj{Sects: []impl.Sect{{}}}, false)
		checkObjOk(t, "nothing", impl.Obj{}, true)
	}
}

// What is put where it stands is a closure over the pass.
func TestWhatIsPutIsAClosureOverThePass(t *testing.T) {
	info := &types.Info{Types: map[ast.Expr]types.TypeAndValue{}, Defs: map[*ast.Ident]types.Object{}, Uses: map[*ast.Ident]types.Object{}}
	f := typedFiles(t, info)["l16_asm.go"]
	if f == nil {
		t.Fatal("no l16_asm.go")
	}
	over := 0
	ast.Inspect(f, func(n ast.Node) bool {
		x, ok := n.(*ast.FuncLit)
		if !ok {
			return true
		}
		ast.Inspect(x.Body, func(n ast.Node) bool {
			id, ok := n.(*ast.Ident)
			if !ok {
				return true
			}
			v, ok := info.Uses[id].(*types.Var)
			if ok && !v.IsField() && (v.Pos() < x.Pos() || v.Pos() > x.End()) && strings.HasSuffix(v.Type().String(), ".pass") {
				over++
			}
			return true
		})
		return true
	})
	if over == 0 {
		t.Error("no closure over the pass")
	}
}
