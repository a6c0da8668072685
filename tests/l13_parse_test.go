package tests

import (
	"fmt"
	"go/ast"
	"slices"
	"strings"
	"testing"
	"unsafe"

	"loop.example/g00329/impl"
)

// checkReads wants that x is read of s, is right, and has the tokens of s in its text.
func checkReads(t *testing.T, s string, x impl.Line) {
	t.Helper()
	got, ok := impl.ParseLine(s)
	if !ok || !sameLine(got, x) {
		t.Errorf("ParseLine of %.300q: %v, %v, want %v", s, got, ok, x)
		return
	}
	if !impl.LineOk(got) {
		t.Errorf("ParseLine of %.300q: %v, which is not LineOk", s, got)
	}
	text, _ := impl.Lex(impl.LineText(got))
	if l, ok := impl.Lex(s); !ok || !slices.Equal(l, text) {
		t.Errorf("ParseLine of %.300q: %v, whose text is %q", s, got, impl.LineText(got))
	}
}

func checkReadsNot(t *testing.T, s string) {
	t.Helper()
	if got, ok := impl.ParseLine(s); ok || !sameLine(got, impl.Line{}) {
		t.Errorf("ParseLine of %.300q: %v, %v", s, got, ok)
	}
}

// checkLineComesBack wants x, which is right, of its text.
func checkLineComesBack(t *testing.T, x impl.Line) {
	t.Helper()
	checkReads(t, wantLineText(x), x)
	checkReads(t, impl.LineText(x), x)
}

// argTold tells whether the tokens of these texts are an operand, form by form.
func argTold(l []string) bool {
	return slices.ContainsFunc(argForms, func(f argForm) bool { return f.told(l) })
}

func (f argForm) told(l []string) bool {
	for _, part := range strings.Fields(f.text) {
		if len(l) == 0 {
			return false
		}
		deep := 1
		switch {
		case part == "E":
			l, deep = cutTerm(l)
		case part == "R" && slices.Contains(regTexts, l[0]), part == l[0]:
			l = l[1:]
		default:
			return false
		}
		if deep == 0 || deep > 6 {
			return false
		}
	}
	return len(l) == 0
}

func termTold(l []string) bool {
	rest, deep := cutTerm(l)
	return len(rest) == 0 && deep > 0 && deep <= 6
}

func regTold(l []string) bool { return len(l) == 1 && slices.Contains(regTexts, l[0]) }

func nameTold(l []string) bool { return len(l) == 1 && wantName(l[0]) }

func overTold(l []string) bool { return len(l) == 1 && l[0] == "over" }

// cutAtCommas has one part more than there are commas; none of nothing.
func cutAtCommas(l []string) [][]string {
	if len(l) == 0 {
		return nil
	}
	parts := [][]string{nil}
	for _, z := range l {
		if z == "," {
			parts = append(parts, nil)
		} else {
			parts[len(parts)-1] = append(parts[len(parts)-1], z)
		}
	}
	return parts
}

// lineTold tells whether the tokens of these texts are the text of a line, apart from what the program reads.
func lineTold(l []string) bool {
	if len(l) == 0 {
		return true
	}
	if wantName(l[0]) {
		return len(l) == 2 && l[1] == ":" || len(l) > 2 && l[1] == "=" && termTold(l[2:])
	}
	i := slices.IndexFunc(lineKinds, func(k lineKind) bool { return k.name == l[0] })
	if i < 0 {
		return false
	}
	k := lineKinds[i]
	var want []func(l []string) bool
	if k.s {
		want = append(want, nameTold, overTold)
	}
	if k.highestN == 7 {
		want = append(want, regTold)
	}
	for _, has := range []bool{k.src, k.dst} {
		if has {
			want = append(want, argTold)
		}
	}
	for range k.most {
		if k.namesAlone {
			want = append(want, nameTold)
		} else {
			want = append(want, termTold)
		}
	}
	fewest := len(want) - k.most + k.fewest
	if k.x.K == impl.LSect {
		fewest = 1
	}
	parts := cutAtCommas(l[1:])
	if len(parts) < fewest || len(parts) > len(want) {
		return false
	}
	for i, part := range parts {
		if !want[i](part) {
			return false
		}
	}
	return true
}

// checkReadsAsTold answers whether it is read.
func checkReadsAsTold(t *testing.T, l []string) bool {
	t.Helper()
	s := strings.Join(l, " ")
	if !lineTold(l) {
		checkReadsNot(t, s)
		return false
	}
	x, ok := impl.ParseLine(s)
	if !ok || !wantLineOk(x) || wantLineText(x) != s {
		t.Errorf("ParseLine of %q: %v, %v", s, x, ok)
	}
	checkReads(t, s, x)
	return true
}

func TestLinesReadWrittenOut(t *testing.T) {
	a, b := symExpr("a"), symExpr("b")
	ins := func(op int, src, dst impl.Arg) impl.Line { return impl.Line{K: impl.LIns, Op: op, Src: src, Dst: dst} }
	r := func(reg int) impl.Arg { return impl.Arg{Reg: reg} }
	var no impl.Arg
	for s, x := range map[string]impl.Line{
		"a:":                   {K: impl.LLabel, S: "a"},
		"sixlet :":             {K: impl.LLabel, S: "sixlet"},
		"over:":                {K: impl.LLabel, S: "over"},
		"r6:":                  {K: impl.LLabel, S: "r6"},
		"a=b":                  {K: impl.LSet, S: "a", L: []impl.Expr{b}},
		"a=.":                  {K: impl.LSet, S: "a", L: []impl.Expr{hereExpr}},
		"a=-10":                {K: impl.LSet, S: "a", L: []impl.Expr{negExpr(numExpr(8))}},
		"k=<.-a>":              {K: impl.LSet, S: "k", L: []impl.Expr{pairExpr(impl.XSub, hereExpr, a)}},
		"mov #5,r0":            ins(impl.OMov, impl.Arg{Form: impl.AImm, E: numExpr(5)}, no),
		"mov r0,#5":            ins(impl.OMov, no, impl.Arg{Form: impl.AImm, E: numExpr(5)}),
		"mov r0,r0":            ins(impl.OMov, no, no),
		"mov r1,r2":            ins(impl.OMov, r(1), r(2)),
		"cmp (r1),(r2)+":       ins(impl.OCmp, impl.Arg{Form: impl.AInd, Reg: 1}, impl.Arg{Form: impl.AInc, Reg: 2}),
		"cmp (sp)+,(sp)+":      ins(impl.OCmp, impl.Arg{Form: impl.AInc, Reg: 6}, impl.Arg{Form: impl.AInc, Reg: 6}),
		"add -(r3),@-(r4)":     ins(impl.OAdd, impl.Arg{Form: impl.ADec, Reg: 3}, impl.Arg{Form: impl.ADecI, Reg: 4}),
		"sub -1(r3),@-1(r4)":   ins(impl.OSub, impl.Arg{Form: impl.AIdx, Reg: 3, E: negExpr(numExpr(1))}, impl.Arg{Form: impl.AIdxI, Reg: 4, E: negExpr(numExpr(1))}),
		"bis @#a,@b":           ins(impl.OBis, impl.Arg{Form: impl.AAbs, E: a}, impl.Arg{Form: impl.ARelI, E: b}),
		"bic -a,@-<a-b>":       ins(impl.OBic, impl.Arg{Form: impl.ARel, E: negExpr(a)}, impl.Arg{Form: impl.ARelI, E: negExpr(pairExpr(impl.XSub, a, b))}),
		"clr @-(sp)":           ins(impl.OClr, no, impl.Arg{Form: impl.ADecI, Reg: 6}),
		"inc (r0)+":            ins(impl.OInc, no, impl.Arg{Form: impl.AInc}),
		"dec @(pc)+":           ins(impl.ODec, no, impl.Arg{Form: impl.AIncI, Reg: 7}),
		"tst @<a+1>(r5)":       ins(impl.OTst, no, impl.Arg{Form: impl.AIdxI, Reg: 5, E: plus(a, 1)}),
		"tst .":                ins(impl.OTst, no, impl.Arg{Form: impl.ARel, E: hereExpr}),
		"tst .(r1)":            ins(impl.OTst, no, impl.Arg{Form: impl.AIdx, Reg: 1, E: hereExpr}),
		"jmp @.":               ins(impl.OJmp, no, impl.Arg{Form: impl.ARelI, E: hereExpr}),
		"jsr pc,@#a":           {K: impl.LIns, Op: impl.OJsr, N: 7, Dst: impl.Arg{Form: impl.AAbs, E: a}},
		"jsr r5,r1":            {K: impl.LIns, Op: impl.OJsr, N: 5, Dst: r(1)},
		"rts r5":               {K: impl.LIns, Op: impl.ORts, N: 5},
		"br .":                 {K: impl.LIns, Op: impl.OBr, L: []impl.Expr{hereExpr}},
		"blt -a":               {K: impl.LIns, Op: impl.OBlt, L: []impl.Expr{negExpr(a)}},
		"halt":                 {K: impl.LIns, Op: impl.OHalt},
		"emt 177777":           {K: impl.LIns, Op: impl.OEmt, L: []impl.Expr{numExpr(65535)}},
		"emt<a+1>":             {K: impl.LIns, Op: impl.OEmt, L: []impl.Expr{plus(a, 1)}},
		".word 0":              {K: impl.LWord, L: []impl.Expr{numExpr(0)}},
		".word.":               {K: impl.LWord, L: []impl.Expr{hereExpr}},
		".word a,-b,.,<a+1>":   {K: impl.LWord, L: []impl.Expr{a, negExpr(b), hereExpr, plus(a, 1)}},
		".blkw 10":             {K: impl.LBlk, L: []impl.Expr{numExpr(8)}},
		".sect d":              {K: impl.LSect, S: "d"},
		".sect d,over":         {K: impl.LSect, S: "d", N: 1},
		".sect over":           {K: impl.LSect, S: "over"},
		".sect over,over":      {K: impl.LSect, S: "over", N: 1},
		".globl a,b":           {K: impl.LGlob, L: []impl.Expr{a, b}},
		".globl over,a,over":   {K: impl.LGlob, L: []impl.Expr{symExpr("over"), a, symExpr("over")}},
		".end":                 {K: impl.LEnd},
		"\t.end ; .end , over": {K: impl.LEnd},
	} {
		checkReads(t, s, x)
	}
}

func TestLinesOfNothing(t *testing.T) {
	for _, s := range []string{"", " ", "\t", " \t \t ", strings.Repeat(" ", 10000), ";", " ;", ";;", "; no", " ; mov r0", "\t;x", ";\x00\xff\n", ";A", ";mov r0,r1"} {
		checkReads(t, s, impl.Line{})
	}
	for _, s := range []string{"\n", "\r", " \n", "\n;", "\x00", " \x00", "\v", "\f", "\u00a0", "\u2028", "A", "$", "\"", "\\"} {
		checkReadsNot(t, s)
	}
}

// tight has the texts with blanks only where two tokens would meet without.
func tight(l []string) string {
	s := ""
	for i, z := range l {
		if i > 0 && meet(l[i-1], z) {
			s += " "
		}
		s += z
	}
	return s
}

func checkLineSpellings(t *testing.T, x impl.Line) {
	t.Helper()
	s := wantLineText(x)
	short := tight(strings.Fields(s))
	for _, other := range []string{
		" " + s, s + " ", "\t" + s + "\t", strings.ReplaceAll(s, " ", "  "), strings.ReplaceAll(s, " ", "\t"), strings.ReplaceAll(s, " ", " \t "), short,
		s + ";", s + " ; a remark", s + ";\x00\xff\n8 00 A", s + ";,", short + ";" + s,
	} {
		checkReads(t, other, x)
	}
	checkReads(t, ";"+s, impl.Line{})
	if s == "" {
		return
	}
	for _, other := range []string{
		s + "\n", "\n" + s, s + "\r", s + "\x00", s + " A", s + " 8", s + " 00", s + " sevenle", s + " $", s + " \xff", "\u00a0" + s, strings.ReplaceAll(s, " ", "\n") + "\n", strings.ToUpper(s) + "A",
	} {
		checkReadsNot(t, other)
	}
}

func TestEachKindOfLineIsRead(t *testing.T) {
	for _, k := range lineKinds {
		checkLineComesBack(t, k.x)
		checkLineSpellings(t, k.x)
	}
}

func TestEachFormAtEachRegisterIsRead(t *testing.T) {
	for _, f := range argForms {
		for reg := range 8 {
			for _, e := range someTerms() {
				a := f.arg(reg, e)
				x := impl.Line{K: impl.LIns, Op: impl.OClr, Dst: a}
				checkLineComesBack(t, x)
				checkLineComesBack(t, impl.Line{K: impl.LIns, Op: impl.OMov, Src: a, Dst: a})
				checkLineComesBack(t, impl.Line{K: impl.LIns, Op: impl.OJsr, N: 7 - reg, Dst: a})
			}
			for _, e := range []impl.Expr{symExpr("a"), numExpr(8), hereExpr, negExpr(numExpr(2)), negExpr(plus(symExpr("a"), 1))} {
				checkLineSpellings(t, impl.Line{K: impl.LIns, Op: impl.OSub, Src: f.arg(reg, e), Dst: f.arg(7-reg, e)})
			}
		}
	}
}

func TestOperandsOfEachOpAreRead(t *testing.T) {
	for _, k := range insKinds() {
		for _, a := range someArgs() {
			for _, b := range someArgs() {
				x := k.x
				if k.src {
					x.Src = a
				}
				if k.dst {
					x.Dst = b
				}
				for n := 0; n <= k.highestN; n++ {
					x.N = n
					checkLineComesBack(t, x)
				}
			}
		}
	}
}

// Each Op with each two operands, with one, and with none: read only where it has so many of these.
func TestOperandsThatAnOpHasNot(t *testing.T) {
	var args [][]string
	for _, a := range someArgs() {
		args = append(args, strings.Fields(wantArgText(a)))
	}
	comma := []string{","}
	for _, word := range keptTexts {
		head := []string{word}
		read := 0
		count := func(l ...[]string) {
			if checkReadsAsTold(t, slices.Concat(l...)) {
				read++
			}
		}
		count(head)
		count(head, comma)
		for _, a := range args {
			count(head, a)
			count(head, a, comma)
			count(head, comma, a)
			for _, b := range args {
				count(head, a, comma, b)
				count(head, a, b)
				count(head, a, comma, comma, b)
				count(head, a, comma, b, comma)
				count(head, a, comma, b, comma, a)
			}
		}
		if isReg := slices.Contains(regTexts, word); (read == 0) != isReg {
			t.Error(word, "read:", read)
		}
	}
}

func TestRegistersOfOps(t *testing.T) {
	for _, s := range []string{
		"rts", "rts a", "rts 5", "rts #5", "rts (r5)", "rts @r5", "rts r5,", "rts r5,r5", "rts r5,a", "rts r6", "rts r8", "rts 5(r5)", "rts .", "rts -r5", "rts mov",
		"jsr", "jsr a", "jsr r5", "jsr pc", "jsr pc,", "jsr ,a", "jsr a,pc", "jsr 5,a", "jsr #5,a", "jsr (pc),a", "jsr pc a", "jsr pc,a,b", "jsr @pc,a", "jsr r7,a", "jsr mov,a", "jsr pc,mov",
		"br", "br r0", "br (r0)", "br #a", "br @a", "br a(r0)", "br a,b", "br a,", "br r0,a", "br -(r0)", "br over,",
		"emt", "emt r0", "emt #1", "emt 1,2", "emt @1", "emt 1(r0)", "emt r0,1",
		"halt r0", "halt 1", "halt a", "halt ,", "halt r0,r0", "halt:", "halt=1", "halt halt",
		"clr", "clr r0,r1", "clr ,", "clr ,r0", "clr r0,", "clr mov", "clr (r8)", "clr r0 r1", "clr (a)", "clr (1)", "clr (r0", "clr r0)", "clr ()", "clr (r0))", "clr ((r0))", "clr (r0+)", "clr +(r0)", "clr (r0)-", "clr (r0)++", "clr -(r0)+", "clr -r0", "clr #r0", "clr #(r0)", "clr #-(r0)", "clr ##1", "clr #", "clr r0(r1)", "clr a(1)", "clr a(b)", "clr a(r0)+", "clr a(r0)(r0)", "clr a()", "clr a(", "clr (r0)a", "clr (r0)(r1)", "clr #1(r0)", "clr <a+r0>", "clr <a+1", "clr <a+1>>", "clr <(r0)+1>", "clr a+1", "clr a b", "clr --(r0)", "clr -<(r0)>", "clr .word",
		"mov", "mov r0", "mov r0,", "mov ,r0", "mov r0 r1", "mov r0,r1,r2", "mov r0,,r1", "mov ,", "mov #5 r0", "mov (r0)+(r1)+", "mov r0,mov", "mov mov,r0", "mov r0;,r1", "mov r0=r1", "mov r0:r1",
	} {
		checkReadsNot(t, s)
	}
}

func TestWhatFollowsAnAt(t *testing.T) {
	a := symExpr("a")
	for s, arg := range map[string]impl.Arg{
		"@(r0)+":      {Form: impl.AIncI},
		"@(sp)+":      {Form: impl.AIncI, Reg: 6},
		"@-(r0)":      {Form: impl.ADecI},
		"@-(pc)":      {Form: impl.ADecI, Reg: 7},
		"@a(r0)":      {Form: impl.AIdxI, E: a},
		"@0(r3)":      {Form: impl.AIdxI, Reg: 3, E: numExpr(0)},
		"@.(r3)":      {Form: impl.AIdxI, Reg: 3, E: hereExpr},
		"@-a(r3)":     {Form: impl.AIdxI, Reg: 3, E: negExpr(a)},
		"@-2(r3)":     {Form: impl.AIdxI, Reg: 3, E: negExpr(numExpr(2))},
		"@--2(r3)":    {Form: impl.AIdxI, Reg: 3, E: negExpr(negExpr(numExpr(2)))},
		"@<a+1>(r3)":  {Form: impl.AIdxI, Reg: 3, E: plus(a, 1)},
		"@-<a+1>(r3)": {Form: impl.AIdxI, Reg: 3, E: negExpr(plus(a, 1))},
		"@#a":         {Form: impl.AAbs, E: a},
		"@#0":         {Form: impl.AAbs, E: numExpr(0)},
		"@#.":         {Form: impl.AAbs, E: hereExpr},
		"@#-a":        {Form: impl.AAbs, E: negExpr(a)},
		"@#<a+1>":     {Form: impl.AAbs, E: plus(a, 1)},
		"@a":          {Form: impl.ARelI, E: a},
		"@0":          {Form: impl.ARelI, E: numExpr(0)},
		"@.":          {Form: impl.ARelI, E: hereExpr},
		"@-a":         {Form: impl.ARelI, E: negExpr(a)},
		"@-2":         {Form: impl.ARelI, E: negExpr(numExpr(2))},
		"@<a+1>":      {Form: impl.ARelI, E: plus(a, 1)},
		"@-<a+1>":     {Form: impl.ARelI, E: negExpr(plus(a, 1))},
	} {
		checkReads(t, "clr "+s, impl.Line{K: impl.LIns, Op: impl.OClr, Dst: arg})
		checkReads(t, "mov "+s+",r1", impl.Line{K: impl.LIns, Op: impl.OMov, Src: arg, Dst: impl.Arg{Reg: 1}})
		checkReads(t, "mov r1,"+s, impl.Line{K: impl.LIns, Op: impl.OMov, Src: impl.Arg{Reg: 1}, Dst: arg})
		checkReads(t, "jsr r1,"+s, impl.Line{K: impl.LIns, Op: impl.OJsr, N: 1, Dst: arg})
		checkReads(t, "add "+s+","+s, impl.Line{K: impl.LIns, Op: impl.OAdd, Src: arg, Dst: arg})
	}
	wrong := []string{"@", "@@", "@@a", "@@r0", "@@(r0)+", "@@#a", "@(r0)++", "@+", "@+(r0)", "@(r0)-", "@-(r0)+", "@-r0", "@#r0", "@#(r0)", "@#(r0)+", "@#-(r0)", "@##a", "@#@a", "#@a", "@#", "@#a(r0)", "@-", "@- ", "@(", "@()", "@()+", "@(a)+", "@(a)", "@-(a)", "@(r0", "@(r0+", "@mov", "@,", "@)", "@:", "@.word", "@a@", "@a(r0)+", "@a(r0", "@a()", "@a(b)", "@<a+1", "-@(r0)", "-@a", "a@(r0)", "(@r0)", "(@r0)+", "@<r0+1>", "r0@"}
	for _, reg := range regTexts {
		wrong = append(wrong, "@"+reg, "@("+reg+")", "@ ( "+reg+" ) ", "@"+reg+"("+reg+")", "@"+reg+"+")
	}
	for _, s := range wrong {
		for _, line := range []string{"clr " + s, "tst " + s, "mov " + s + ",r1", "mov r1," + s, "jsr r1," + s, "br " + s, ".word " + s, "rts " + s, "a=" + s, s, s + ":"} {
			checkReadsNot(t, line)
		}
	}
	for _, s := range []string{".word @a", ".word @#a", "br @a", "emt @#1", ".blkw @a", "a=@b", ".globl @a", ".sect @a", "@a:", "@ mov r0,r1", "rts @(sp)+"} {
		checkReadsNot(t, s)
	}
}

func TestWhatFollowsAMinus(t *testing.T) {
	a := symExpr("a")
	for s, arg := range map[string]impl.Arg{
		"-(r0)":         {Form: impl.ADec},
		"-(pc)":         {Form: impl.ADec, Reg: 7},
		"-2":            {Form: impl.ARel, E: negExpr(numExpr(2))},
		"-0":            {Form: impl.ARel, E: negExpr(numExpr(0))},
		"-2(r1)":        {Form: impl.AIdx, Reg: 1, E: negExpr(numExpr(2))},
		"-a":            {Form: impl.ARel, E: negExpr(a)},
		"-a(r1)":        {Form: impl.AIdx, Reg: 1, E: negExpr(a)},
		"-.":            {Form: impl.ARel, E: negExpr(hereExpr)},
		"-.(sp)":        {Form: impl.AIdx, Reg: 6, E: negExpr(hereExpr)},
		"-<a+1>":        {Form: impl.ARel, E: negExpr(plus(a, 1))},
		"-<a+1>(r1)":    {Form: impl.AIdx, Reg: 1, E: negExpr(plus(a, 1))},
		"--a":           {Form: impl.ARel, E: negExpr(negExpr(a))},
		"---2(r1)":      {Form: impl.AIdx, Reg: 1, E: negExpr(negExpr(negExpr(numExpr(2))))},
		"#-2":           {Form: impl.AImm, E: negExpr(numExpr(2))},
		"#-a":           {Form: impl.AImm, E: negExpr(a)},
		"<-a--1>":       {Form: impl.ARel, E: pairExpr(impl.XSub, negExpr(a), negExpr(numExpr(1)))},
		"-<-a--1>(r1)":  {Form: impl.AIdx, Reg: 1, E: negExpr(pairExpr(impl.XSub, negExpr(a), negExpr(numExpr(1))))},
		"<<a-1>-a>(r1)": {Form: impl.AIdx, Reg: 1, E: pairExpr(impl.XSub, minus(a, 1), a)},
	} {
		checkReads(t, "clr "+s, impl.Line{K: impl.LIns, Op: impl.OClr, Dst: arg})
		checkReads(t, "mov "+s+","+s, impl.Line{K: impl.LIns, Op: impl.OMov, Src: arg, Dst: arg})
		checkReads(t, "jsr r2,"+s, impl.Line{K: impl.LIns, Op: impl.OJsr, N: 2, Dst: arg})
	}
	for _, s := range []string{"-", "--", "-r0", "-#1", "-@a", "-(", "-()", "-(a)", "-(1)", "-(r0", "-(r0)+", "-(r0)-", "--(r0)", "-+", "-+1", "-)", "-,", "-mov", "-:", "-.a", "-2(a)", "-2(", "-2()", "-2(r1", "-2(r1)+", "-<a>", "-<a", "-<", "-<(r0)+1>", "-<a+1>(", "- ; (r0)", "-1-1", "a-1", "a-(r0)"} {
		for _, line := range []string{"clr " + s, "mov " + s + ",r0", "mov r0," + s, "jsr pc," + s, "br " + s, ".word " + s, ".word 1," + s, "a=" + s} {
			checkReadsNot(t, line)
		}
	}
	for _, s := range []string{"br -(r0)", ".word -(r0)", "a=-(r0)", "br -2(r0)", ".blkw -2(r0)", ".globl -a", ".sect -a", "-a:", "-a=1", "rts -(sp)", "jsr -(sp),a"} {
		checkReadsNot(t, s)
	}
}

// Of all operands of at most five tokens just those are read that are the text of one.
func TestEveryShortOperand(t *testing.T) {
	tokens := strings.Fields("@ # - ( ) + r0 sp a 1 . < >")
	texts := textsOfAtMost(5)
	want := 0
	for _, f := range argForms {
		parts := len(strings.Fields(f.text))
		for s := range texts {
			if f.hasTerm() && parts-1+len(strings.Fields(s)) <= 5 && !strings.Contains(s, "|") {
				want += len(regsOf(f))
			}
		}
		if !f.hasTerm() {
			want += len(regsOf(f))
		}
	}
	read := 0
	lines := [][]string{nil}
	for range 5 {
		var longer [][]string
		for _, l := range lines {
			for _, z := range tokens {
				longer = append(longer, append(slices.Clip(l), z))
			}
		}
		lines = longer
		for _, l := range lines {
			if checkReadsAsTold(t, slices.Concat([]string{"clr"}, l)) {
				read++
			}
		}
	}
	if read != want || read < 90 {
		t.Error("read:", read, "of", want)
	}
}

// regsOf are those of the short operands.
func regsOf(f argForm) []int {
	if f.hasReg() {
		return []int{0, 6}
	}
	return []int{0}
}

// Of all lines of at most four tokens, of some of each kind, just those are read that are the text of one.
func TestEveryShortLineOfTokens(t *testing.T) {
	tokens := strings.Fields("a over : = , ( ) - @ # . 1 mov clr jsr rts br halt emt r0 .word .blkw .sect .globl .end .foo")
	read := map[string]int{}
	var lines [][]string
	for _, z := range tokens {
		lines = append(lines, []string{z})
	}
	for size := 1; size <= 4; size++ {
		var longer [][]string
		for _, l := range lines {
			if checkReadsAsTold(t, l) {
				read[l[0]]++
			}
			if size < 4 {
				for _, z := range tokens {
					longer = append(longer, append(slices.Clip(l), z))
				}
			}
		}
		lines = longer
	}
	// Of two names with one of 8 terms of at most two tokens (4 and 4), and of at most three for those behind a word.
	names, terms2, terms3 := 2, 8, 12
	want := map[string]int{
		"a": 1 + terms2, "over": 1 + terms2, "halt": 1, ".end": 1, "rts": 1, "br": terms3, "emt": terms3, ".blkw": terms3,
		".sect": names + names, ".globl": names + names*names, ".word": terms3 + 4*4,
	}
	for word, n := range want {
		if read[word] != n {
			t.Errorf("%q: read %d, want %d", word, read[word], n)
		}
	}
	for _, word := range strings.Fields(": = , ( ) - @ # . 1 r0 .foo") {
		if read[word] > 0 {
			t.Errorf("%q: read %d", word, read[word])
		}
	}
	if read["mov"] < 20 || read["clr"] < 20 || read["jsr"] < 5 {
		t.Error("read:", read)
	}
}

func TestTermsOfLinesAreRead(t *testing.T) {
	for _, k := range lineKinds {
		for count := k.fewest; count <= k.most; count++ {
			for place := range count {
				for _, e := range someTerms() {
					x := k.x
					x.L = slices.Repeat([]impl.Expr{symExpr("b")}, count)
					x.L[place] = e
					if wantLineOk(x) {
						checkLineComesBack(t, x)
					} else {
						checkReadsAsTold(t, strings.Fields(wantLineText(x)))
					}
				}
			}
		}
	}
}

func TestLinesSixDeepAndSeven(t *testing.T) {
	for _, w := range wrappers() {
		for _, leaf := range []impl.Expr{symExpr("a"), numExpr(0), hereExpr} {
			six, seven := within(leaf, w, 5), within(leaf, w, 6)
			for _, k := range lineKinds {
				checkDeepLines(t, k, six, seven)
			}
		}
	}
}

// checkDeepLines lays six, and then seven, into each place of a line where a term stands.
func checkDeepLines(t *testing.T, k lineKind, six, seven impl.Expr) {
	t.Helper()
	check := func(with func(e impl.Expr) impl.Line) {
		checkLineComesBack(t, with(six))
		checkReadsNot(t, wantLineText(with(seven)))
	}
	for _, f := range argForms[impl.AIdx:] {
		if k.src {
			check(func(e impl.Expr) impl.Line { x := k.x; x.Src = f.arg(3, e); return x })
		}
		if k.dst {
			check(func(e impl.Expr) impl.Line { x := k.x; x.Dst = f.arg(3, e); return x })
		}
	}
	if k.namesAlone {
		return
	}
	for place := range k.most {
		check(func(e impl.Expr) impl.Line {
			x := k.x
			x.L = slices.Repeat([]impl.Expr{symExpr("b")}, k.most)
			x.L[place] = e
			return x
		})
	}
}

func TestTheLongestLinesAreRead(t *testing.T) {
	full := fullTree(6, func() impl.Expr { return symExpr("sixlet") })
	deeper := fullTree(7, func() impl.Expr { return symExpr("a") })
	for _, k := range lineKinds {
		x := k.x
		if k.src {
			x.Src = impl.Arg{Form: impl.AIdxI, Reg: 7, E: full}
		}
		if k.dst {
			x.Dst = impl.Arg{Form: impl.AIdxI, Reg: 7, E: full}
		}
		if k.most > 0 && !k.namesAlone {
			x.L = slices.Repeat([]impl.Expr{full}, k.most)
		}
		checkLineComesBack(t, x)
	}
	for _, s := range []string{"a=" + wantText(deeper), "clr " + wantText(deeper) + "(r0)", ".word " + wantText(full) + "," + wantText(deeper)} {
		checkReadsNot(t, s)
	}
	for _, n := range []int{7, 799, 800, 801, 100000} {
		for _, s := range []string{"a=" + strings.Repeat("-", n) + "1", "clr @" + strings.Repeat("-", n) + "(r0)", "clr " + strings.Repeat("<", n), "clr " + strings.Repeat("(", n), strings.Repeat("@", n), ".word 1" + strings.Repeat(",1", n), strings.Repeat("a:", n), strings.Repeat("clr ", n), "clr " + strings.Repeat("@", n) + "a"} {
			checkReadsNot(t, s)
		}
	}
	checkReads(t, "halt"+strings.Repeat(" ", 10000)+";"+strings.Repeat("a,", 10000), impl.Line{K: impl.LIns, Op: impl.OHalt})
}

func TestHowManyTermsAreRead(t *testing.T) {
	for _, k := range []struct {
		word   string
		k      int
		most   int
		values []impl.Expr
	}{
		{".word", impl.LWord, 6, []impl.Expr{symExpr("a"), numExpr(1), hereExpr, negExpr(symExpr("b")), plus(symExpr("c"), 1)}},
		{".globl", impl.LGlob, 6, []impl.Expr{symExpr("a"), symExpr("b"), symExpr("over")}},
		{".blkw", impl.LBlk, 1, []impl.Expr{symExpr("a"), numExpr(1), hereExpr, negExpr(numExpr(1))}},
	} {
		for count := range 10 {
			for first := range k.values {
				x := impl.Line{K: k.k}
				var texts []string
				for i := range count {
					e := k.values[(first+i)%len(k.values)]
					x.L = append(x.L, e)
					texts = append(texts, wantText(e))
				}
				s := k.word + " " + strings.Join(texts, ",")
				if count > 0 && count <= k.most {
					checkReads(t, s, x)
				} else {
					checkReadsNot(t, s)
				}
				checkReadsNot(t, s+",")
				checkReadsNot(t, k.word+" ,"+strings.Join(texts, ","))
				if count > 1 {
					checkReadsNot(t, k.word+" "+strings.Join(texts, ",,"))
					checkReadsNot(t, k.word+" "+strings.Join(texts, ":"))
					checkReadsNot(t, k.word+" "+strings.Join(texts, " "))
				}
			}
		}
	}
}

func TestGloblWithWhatIsNoName(t *testing.T) {
	wrong := []string{"", "1", "0", ".", "-a", "<a+b>", "a+b", "<a>", "(a)", "a(r0)", "#a", "@a", "a:", "a=1", "a b", ".word", ".a", "a.", "sevenle", "A", "8", "<a+b>(r0)", ";a", ";"}
	wrong = append(wrong, keptTexts...)
	for _, s := range wrong {
		for _, line := range []string{".globl " + s, ".globl a," + s, ".globl " + s + ",b", ".globl a," + s + ",b", ".globl a,b,c,d,e," + s} {
			checkReadsNot(t, line)
		}
	}
}

func TestSectionsRead(t *testing.T) {
	for _, name := range []string{"a", "sixlet", "over", "over2", "ove", "r6", "word", "end", "globl", "sect", "a00000"} {
		checkReads(t, ".sect "+name, impl.Line{K: impl.LSect, S: name})
		checkReads(t, ".sect "+name+",over", impl.Line{K: impl.LSect, S: name, N: 1})
		checkReads(t, ".sect "+name+" ; ,over", impl.Line{K: impl.LSect, S: name})
		behind := []string{",", ",,", ",,over", " over", ",over,", ",over,over", ",over over", ",ove", ",over2", ",overs", ",a", ",d", ",sixlet", "," + name + "x", ",mov", ",r0", ",1", ",0", ",.", ",.over", ",-over", ",<over+1>", ",(over)", ",#over", ",OVER", ",over:", ",;over", ":", "=1", " a", "(r0)", "+1"}
		for _, s := range behind {
			checkReadsNot(t, ".sect "+name+s)
		}
		if name != "over" {
			checkReadsNot(t, ".sect "+name+","+name)
		}
	}
	wrong := []string{"", ",", ",over", "1", ".", ".a", "-a", "<a+b>", "#a", "@a", "(a)", "A", "sevenle"}
	for _, s := range append(wrong, keptTexts...) {
		checkReadsNot(t, ".sect "+s)
		checkReadsNot(t, ".sect "+s+",over")
	}
}

func TestWordsWithADotThatBeginNothing(t *testing.T) {
	for _, s := range []string{".", "..", ".a", ".wor", ".words", ".word2", ".blk", ".blkw2", ".sec", ".sects", ".glob", ".global", ".globl2", ".en", ".ends", ".endm", ".endr", ".macro", ".rept", ".mov", ".halt", ".r0", ".over", ".even", ".byte", ".foo", "word", "blkw", "sect", "globl", "end", ". word", ". end", ".WORD", ".End"} {
		for _, behind := range []string{"", " a", " 1", " a,b", " a,over", " r0", " r0,r1", " .", ":a"} {
			checkReadsNot(t, s+behind)
		}
	}
	for _, s := range []string{".end a", ".end 1", ".end ,", ".end .end", ".end:", ".word:", ".word=1", ".end .", "a .end", "1 .end", ": .end"} {
		checkReadsNot(t, s)
	}
}

func TestNamesAndKeptWordsAlone(t *testing.T) {
	for _, name := range []string{"a", "x", "sixlet", "over", "word", "end", "r6", "r8", "mova", "halts"} {
		for _, s := range []string{name, name + " " + name, name + " a", name + " 1", name + ",", name + ".", name + "(r0)", name + " r0", name + " r0,r1", name + "+1", name + " halt", name + "::", name + ": :", name + ": a", name + ":b:", name + ": halt", name + ":=", name + "=", name + "==", name + "==1", name + "= =1", name + "=:", name + "=1,2", name + "=1 2", name + "=a b", name + "=r0", name + "=mov", name + "=#1", name + "=@a", name + "=(r0)", name + "=a(r0)", name + "=,", name + "=.word", name + "=<a>", name + "=1=2", ":" + name, "=" + name, name + " ; :"} {
			checkReadsNot(t, s)
		}
		checkReads(t, name+":", impl.Line{K: impl.LLabel, S: name})
		checkReads(t, name+"=1", impl.Line{K: impl.LSet, S: name, L: []impl.Expr{numExpr(1)}})
	}
	for _, word := range keptTexts {
		for _, s := range []string{word + ":", word + "=1", word + "=" + word, word + " " + word, "a:" + word, "a=" + word} {
			checkReadsNot(t, s)
		}
		if word == "halt" {
			checkReads(t, word, impl.Line{K: impl.LIns, Op: impl.OHalt})
		} else {
			checkReadsNot(t, word)
		}
	}
	for _, s := range []string{"1", "0", "1:", "1=1", "8", "00", "200000", ":", "=", ",", "= 1", "a:b:", "sevenle:", "sevenle=1", "A:", "a=sevenle", "a=8", "a=00", "a=01", "a=200000", "(r0)+", "-(r0)", "#1", "<a+1>", "@a", "+", "/", "*", "&", "|"} {
		checkReadsNot(t, s)
	}
}

// linesToTurn are of each kind, with operands and terms of several tokens.
func linesToTurn(next func(n int) int) []impl.Line {
	var l []impl.Line
	for _, k := range lineKinds {
		l = append(l, k.x)
	}
	l = append(l, impl.Line{K: impl.LSect, S: "a", N: 1})
	for _, a := range someArgs() {
		l = append(l, impl.Line{K: impl.LIns, Op: impl.OMov, Src: a, Dst: a}, impl.Line{K: impl.LIns, Op: impl.OTst, Dst: a}, impl.Line{K: impl.LIns, Op: impl.OJsr, N: 5, Dst: a})
	}
	for range 400 {
		l = append(l, anyLine(next))
	}
	return l
}

// A line that ends too early, at each place, and one with something behind it, ahead of it, or within.
func TestLinesThatEndTooEarlyOrTooLate(t *testing.T) {
	next := nextOf(13)
	read := 0
	more := []string{"a", "over", "1", ".", ",", ":", "=", "(", ")", "+", "-", "<", ">", "@", "#", "r0", "sp", "mov", "halt", ".word", ".end", ".a"}
	for _, x := range linesToTurn(next) {
		l := strings.Fields(wantLineText(x))
		checkLineComesBack(t, x)
		for i := range l {
			if checkReadsAsTold(t, l[:i]) {
				read++
			}
			checkReadsAsTold(t, slices.Concat(l[:i], l[i+1:]))
			checkReadsAsTold(t, slices.Concat(l[:i], l[i:i+1], l[i:]))
		}
		for _, z := range more {
			checkReadsAsTold(t, slices.Concat(l, []string{z}))
			checkReadsAsTold(t, slices.Concat([]string{z}, l))
		}
		checkReadsAsTold(t, slices.Concat(l, l))
	}
	if read < 100 {
		t.Error("read too early:", read)
	}
}

// One token made another one: it is read only where it is a line's text again.
func TestLinesWithATokenTurned(t *testing.T) {
	next := nextOf(113)
	read, not := 0, 0
	others := []string{"a", "over", "1", ".", ",", ":", "=", "(", ")", "+", "-", "*", "<", ">", "@", "#", "r0", "pc", "mov", "clr", "jsr", "rts", "br", "emt", "halt", ".word", ".sect", ".globl", ".end", ".a"}
	for _, x := range linesToTurn(next) {
		l := strings.Fields(wantLineText(x))
		if len(l) > 60 {
			continue
		}
		for i := range l {
			for _, z := range others {
				if checkReadsAsTold(t, slices.Concat(l[:i], []string{z}, l[i+1:])) {
					read++
				} else {
					not++
				}
			}
		}
	}
	if read < 10000 || not < 10000 {
		t.Error("read:", read, "not:", not)
	}
}

func TestLinesComeBackOfTheirText(t *testing.T) {
	next := nextOf(213)
	for range 5000 {
		x := anyLine(next)
		checkLineComesBack(t, x)
		if next(10) == 0 {
			checkLineSpellings(t, x)
		}
	}
	for range 200 {
		for _, y := range turnedLines(anyLine(next)) {
			if wantLineOk(y) {
				checkLineComesBack(t, y)
			}
		}
	}
}

// Lines of any tokens, mostly ones that are none.
func TestLinesOfAnyTokens(t *testing.T) {
	next := nextOf(313)
	tokens := slices.Concat(markTexts, keptTexts, strings.Fields("a b over 1 10 177777 .word .blkw .sect .globl .end .a , , , r0 r1"))
	read := 0
	for range 100000 {
		var l []string
		if next(2) == 0 {
			l = append(l, lineKinds[1+next(len(lineKinds)-1)].name)
		}
		for range next(7) {
			l = append(l, tokens[next(len(tokens))])
		}
		for i, z := range l {
			if z == "label" || z == "set" {
				l[i] = "a"
			}
		}
		if checkReadsAsTold(t, l) {
			read++
		}
	}
	if read < 1000 {
		t.Error("read:", read)
	}
}

func sameLines(a, b []impl.Line) bool { return slices.EqualFunc(a, b, sameLine) }

func checkReadsText(t *testing.T, s string, want ...impl.Line) {
	t.Helper()
	if l, at := impl.ParseText(s); at != -1 || !sameLines(l, want) {
		t.Errorf("ParseText of %.300q: %v, %d, want %v", s, l, at, want)
	}
}

func checkReadsNoText(t *testing.T, s string, want int) {
	t.Helper()
	if l, at := impl.ParseText(s); at != want || len(l) != 0 {
		t.Errorf("ParseText of %.300q: %v, %d, want %d", s, l, at, want)
	}
}

func TestParseTextWrittenOut(t *testing.T) {
	var none impl.Line
	a, halt := impl.Line{K: impl.LLabel, S: "a"}, impl.Line{K: impl.LIns, Op: impl.OHalt}
	for s, want := range map[string][]impl.Line{
		"":                    {},
		"\n":                  {none},
		"\n\n":                {none, none},
		"\n\n\n":              {none, none, none},
		" ":                   {none},
		" \n":                 {none},
		"\n ":                 {none, none},
		"\n\t\n":              {none, none},
		";":                   {none},
		";\n;":                {none, none},
		"a:":                  {a},
		"a:\n":                {a},
		"a:\n\n":              {a, none},
		"a:\n ":               {a, none},
		"\na:":                {none, a},
		"\na:\n":              {none, a},
		"\n\n\na:":            {none, none, none, a},
		"a:\nhalt":            {a, halt},
		"a:\nhalt\n":          {a, halt},
		"a:\n\nhalt":          {a, none, halt},
		"a:\n\n\nhalt\n\n":    {a, none, none, halt, none},
		"halt;a:\na:;halt\n;": {halt, a, none},
		" halt \n\ta:\t":      {halt, a},
		"a:;\\n\nhalt":        {a, halt},
	} {
		checkReadsText(t, s, want...)
	}
	for s, at := range map[string]int{
		"b": 0, "b\n": 0, "b\na:": 0, "b\n\n": 0, "\nb": 1, "\nb\n": 1, "a:\nb": 1, "a:\nb\nc": 1, "a:\nb\nhalt\nc\n": 1, "a:\n\nb": 2, "a: halt": 0, "a:\nmov\nr0,r1": 1, "a\n:": 0, "a:\n:": 1, "\n\n\nA": 3,
		"a:\r\nhalt": 0, "a:\rhalt": 0, "a:\nhalt\r\n": 1, "\r": 0, "\x00": 0, "a:\x00": 0, "a:\u2028halt": 0, "a:\v\n": 0, "a:\n\f": 1, "\n\n8": 2, ";\n\n;\nb": 3, "halt\\n": 0,
	} {
		checkReadsNoText(t, s, at)
	}
}

// linesOf has so many lines, all of them others, one of each kind after the other.
func linesOf(count int) []impl.Line {
	var l []impl.Line
	for i := range count {
		x := lineKinds[i%len(lineKinds)].x
		if x.S != "" {
			x.S = fmt.Sprintf("n%d", i)
		}
		l = append(l, x)
	}
	return l
}

func TestTextsOfUpTo100Lines(t *testing.T) {
	for _, count := range []int{1, 2, 98, 99, 100} {
		l := linesOf(count)
		s := impl.TextOf(l)
		checkReadsText(t, s, l...)
		checkReadsText(t, strings.Repeat("\n", count), make([]impl.Line, count)...)
		checkReadsText(t, strings.Repeat("\n", count-1)+";", make([]impl.Line, count)...)
		if last := strings.TrimSuffix(s, "\n"); last != "" && !strings.HasSuffix(last, "\n") {
			checkReadsText(t, last, l...)
		}
		checkReadsText(t, strings.Repeat("halt\n", count-1)+"halt", slices.Repeat([]impl.Line{{K: impl.LIns, Op: impl.OHalt}}, count)...)
	}
	for _, count := range []int{101, 102, 200, 1000, 100000} {
		checkReadsNoText(t, strings.Repeat("\n", count), 100)
		checkReadsNoText(t, strings.Repeat("\n", count-1)+" ", 100)
		checkReadsNoText(t, strings.Repeat("halt\n", count), 100)
		checkReadsNoText(t, strings.Repeat("halt\n", count-1)+"halt", 100)
		checkReadsNoText(t, strings.Repeat("halt\n", count-1)+"b", 100)
	}
	checkReadsNoText(t, strings.Repeat("\n", 100)+"halt", 100)
	checkReadsNoText(t, strings.Repeat("\n", 100)+" ", 100)
	checkReadsNoText(t, strings.Repeat("\n", 100)+"b", 100)
	checkReadsNoText(t, impl.TextOf(linesOf(101)), 100)
}

func TestTheFirstThatIsNone(t *testing.T) {
	for _, count := range []int{1, 2, 50, 99, 100, 101, 102, 150} {
		for _, first := range []int{0, 1, 2, 49, 50, 98, 99, 100, 101, 120, 149} {
			if first >= count {
				continue
			}
			for _, wrong := range []string{"b", "A", "mov r0", "clr @r0", "a:b:"} {
				texts := slices.Repeat([]string{"halt"}, count)
				texts[first] = wrong
				checkReadsNoText(t, strings.Join(texts, "\n"), min(first, 100))
				checkReadsNoText(t, strings.Join(texts, "\n")+"\n", min(first, 100))
				for _, second := range []int{first + 1, count - 1, 100} {
					if second > first && second < count {
						texts[second] = wrong
						checkReadsNoText(t, strings.Join(texts, "\n"), min(first, 100))
					}
				}
			}
		}
	}
}

func TestTextOf(t *testing.T) {
	a, halt := impl.Line{K: impl.LLabel, S: "a"}, impl.Line{K: impl.LIns, Op: impl.OHalt}
	no := impl.Line{K: 9, S: "a"}
	for _, x := range []struct {
		want string
		l    []impl.Line
	}{
		{"", nil},
		{"", []impl.Line{}},
		{"", []impl.Line{a}[:0]},
		{"\n", []impl.Line{{}}},
		{"\n\n\n", make([]impl.Line, 3)},
		{"a :\n", []impl.Line{a}},
		{"a :\nhalt\n", []impl.Line{a, halt}},
		{"halt\na :\nhalt\n", []impl.Line{halt, a, halt}},
		{"\na :\n\nhalt\n\n", []impl.Line{{}, a, {}, halt, {}}},
		{"\n", []impl.Line{no}},
		{"a :\n\nhalt\n", []impl.Line{a, no, halt}},
		{"\n\n", []impl.Line{no, no}},
		{"\n\nhalt\n", []impl.Line{{K: impl.LWord}, {K: impl.LLabel, S: "mov"}, halt}},
		{"mov # 2 , r0\nrts sp\n.sect d , over\n", []impl.Line{{K: impl.LIns, Op: impl.OMov, Src: impl.Arg{Form: impl.AImm, E: numExpr(2)}}, {K: impl.LIns, Op: impl.ORts, N: 6}, {K: impl.LSect, S: "d", N: 1}}},
	} {
		if got := impl.TextOf(x.l); got != x.want {
			t.Errorf("TextOf of %v: %q, want %q", x.l, got, x.want)
		}
	}
	if got := impl.TextOf(slices.Repeat([]impl.Line{halt}, 3000)); got != strings.Repeat("halt\n", 3000) {
		t.Error("TextOf of 3000 lines")
	}
	// What lies behind the list is not read.
	if got := impl.TextOf([]impl.Line{a, halt, a}[:1]); got != "a :\n" {
		t.Errorf("%q", got)
	}
	for _, e := range []impl.Expr{ring(1, hereExpr), doubled(200, symExpr("a"))} {
		if got := impl.TextOf([]impl.Line{a, {K: impl.LWord, L: []impl.Expr{e}}, halt}); got != "a :\n\nhalt\n" {
			t.Errorf("%q", got)
		}
	}
}

func TestTextsComeBack(t *testing.T) {
	next := nextOf(413)
	for range 300 {
		var l, right []impl.Line
		want := ""
		for range next(101) {
			x := anyLine(next)
			if next(5) == 0 {
				x.Op++
			}
			l = append(l, x)
			if wantLineOk(x) {
				right = append(right, x)
				want += wantLineText(x)
			} else {
				right = append(right, impl.Line{})
			}
			want += "\n"
		}
		s := impl.TextOf(l)
		if s != want {
			t.Errorf("TextOf: %.300q, want %.300q", s, want)
		}
		checkReadsText(t, s, right...)
	}
}

// roomsOfLine has the memory of each list of a line.
func roomsOfLine(x impl.Line) []room {
	return slices.Concat(roomsOf(x.Src.E), roomsOf(x.Dst.E), roomsOf(impl.Expr{L: x.L}))
}

func namesOfLine(x impl.Line) []string {
	return slices.Concat([]string{x.S}, namesOf(x.Src.E), namesOf(x.Dst.E), namesOf(impl.Expr{L: x.L}))
}

func checkRoomsApart(t *testing.T, rooms []room) {
	t.Helper()
	for i, a := range rooms {
		for _, b := range rooms[:i] {
			if a.from < b.to && b.from < a.to {
				t.Error("two lists share memory")
				return
			}
		}
	}
}

const sharedLines = "sixlet:\nsixlet=<a-<sixlet+a>>\nmov <a-<a+1>>(r0),@<a-<a+1>>(r0)\nclr #<a+a>\njsr r1,-a\n.word <a+a>,<a+a>,-a,a,a,a\n.blkw <a+b>\n.sect sixlet,over\n.globl sixlet,a,sixlet,a\nbr -a\nemt <a+a>\n"

func TestParsedLinesAreNewMemory(t *testing.T) {
	s := strings.Repeat(sharedLines, 2)
	one, at := impl.ParseText(s)
	two, again := impl.ParseText(s)
	if at != -1 || again != -1 || len(one) != 22 {
		t.Fatal("lines:", len(one), at, again)
	}
	var rooms []room
	for _, l := range [][]impl.Line{one, two} {
		from := uintptr(unsafe.Pointer(unsafe.SliceData(l)))
		rooms = append(rooms, room{from, from + uintptr(cap(l))*unsafe.Sizeof(impl.Line{})})
		for _, x := range l {
			rooms = append(rooms, roomsOfLine(x)...)
			for _, name := range namesOfLine(x) {
				if shareText(name, s) {
					t.Errorf("%q shares the text's memory", name)
				}
			}
		}
	}
	if len(rooms) < 80 {
		t.Error("lists:", len(rooms))
	}
	checkRoomsApart(t, rooms)
	// What is done to one answer is not seen in another one.
	want := impl.TextOf(two)
	for _, x := range one {
		scribble(x.Src.E)
		scribble(x.Dst.E)
		scribble(impl.Expr{L: x.L})
	}
	clear(one[:cap(one)])
	if three, _ := impl.ParseText(s); impl.TextOf(two) != want || !sameLines(two, three) {
		t.Error("answers share memory")
	}
	if other := strings.Join(strings.Fields(s), ""); strings.Join(strings.Fields(want), "") != other {
		t.Errorf("%q", want)
	}
}

func TestOneParsedLineIsNewMemory(t *testing.T) {
	for line := range strings.Lines(sharedLines) {
		line = strings.TrimSpace(line)
		one, _ := impl.ParseLine(line)
		two, ok := impl.ParseLine(line)
		checkRoomsApart(t, append(roomsOfLine(one), roomsOfLine(two)...))
		for _, name := range namesOfLine(one) {
			if !ok || shareText(name, line) {
				t.Errorf("%q shares the memory of %q", name, line)
			}
		}
	}
}

func TestTextsOfManyLinesAreNewMemory(t *testing.T) {
	name := strings.Repeat("six", 2)
	for _, l := range [][]impl.Line{{{}}, {{K: impl.LLabel, S: name}}, {{K: impl.LSet, S: name, L: []impl.Expr{symExpr(name)}}, {K: impl.LGlob, L: []impl.Expr{symExpr(name)}}}} {
		one, two := impl.TextOf(l), impl.TextOf(l)
		if shareText(one, name) || shareText(one, two) {
			t.Errorf("%q shares memory", one)
		}
	}
}

func TestTellingTextsWritesNothing(t *testing.T) {
	next := nextOf(513)
	for range 200 {
		count := next(6)
		was := make([]impl.Line, 0, count+2)
		l := make([]impl.Line, 0, count+2)
		for range count + 2 {
			x := anyLine(next)
			if next(4) == 0 {
				x.L = append(x.L, anyTerm(next, 7, false))
			}
			was = append(was, x)
			x.Src.E, x.Dst.E = roomyExpr(x.Src.E), roomyExpr(x.Dst.E)
			x.L = roomyExpr(impl.Expr{L: x.L}).L
			l = append(l, x)
		}
		if s := impl.TextOf(l[:count]); s != impl.TextOf(was[:count]) {
			t.Errorf("TextOf with room behind: %.300q", s)
		}
		for i, x := range was {
			if !sameLine(l[i], x) {
				t.Error("an argument is written")
			}
			checkRoomy(t, l[i].Src.E, x.Src.E)
			checkRoomy(t, l[i].Dst.E, x.Dst.E)
			checkRoomy(t, impl.Expr{L: l[i].L}, impl.Expr{L: x.L})
		}
	}
}

// Nothing is kept from one line to the next, not of one that is not read, either.
func TestLinesReadHangOnNothingAhead(t *testing.T) {
	for range 3 {
		checkReadsNot(t, "mov #5,")
		checkReads(t, "", impl.Line{})
		checkReadsNot(t, "clr @r0")
		checkReads(t, "clr r0", impl.Line{K: impl.LIns, Op: impl.OClr})
		checkReadsNoText(t, "halt\nb", 1)
		checkReadsText(t, "halt", impl.Line{K: impl.LIns, Op: impl.OHalt})
		checkReadsNoText(t, strings.Repeat("\n", 101), 100)
		checkReadsText(t, "")
	}
}

// What cannot be read gives up by a panic, which a deferred recover at the face catches.
func TestReadingGivesUpByAPanic(t *testing.T) {
	_, files := programFiles(t)
	f := files["l13_parse.go"]
	if f == nil {
		t.Fatal("no l13_parse.go")
	}
	panics, caught := 0, false
	for _, d := range f.Decls {
		fn, ok := d.(*ast.FuncDecl)
		if !ok {
			continue
		}
		panics += callsOf(fn, "panic")
		ast.Inspect(fn, func(n ast.Node) bool {
			if x, ok := n.(*ast.DeferStmt); ok && fn.Name.Name == "ParseLine" {
				inner, ok := x.Call.Fun.(*ast.FuncLit)
				caught = caught || ok && callsOf(inner, "recover") > 0
			}
			return true
		})
	}
	if panics == 0 {
		t.Error("nothing gives up by a panic")
	}
	if !caught {
		t.Error("no deferred recover at the face")
	}
}

func callsOf(n ast.Node, name string) int {
	calls := 0
	ast.Inspect(n, func(n ast.Node) bool {
		if x, ok := n.(*ast.CallExpr); ok {
			if f, ok := x.Fun.(*ast.Ident); ok && f.Name == name {
				calls++
			}
		}
		return true
	})
	return calls
}
