package tests

import (
	"fmt"
	"go/ast"
	"math"
	"slices"
	"strings"
	"testing"

	"loop.example/g00329/impl"
)

var regTexts = strings.Fields("r0 r1 r2 r3 r4 r5 sp pc")

// An argForm is what the document tells of a Form, apart from what the program has.
type argForm struct {
	form, number int
	text         string // with R for the register and E for the term
}

var argForms = []argForm{
	{impl.AReg, 0, "R"},
	{impl.AInd, 1, "( R )"},
	{impl.AInc, 2, "( R ) +"},
	{impl.AIncI, 3, "@ ( R ) +"},
	{impl.ADec, 4, "- ( R )"},
	{impl.ADecI, 5, "@ - ( R )"},
	{impl.AIdx, 6, "E ( R )"},
	{impl.AIdxI, 7, "@ E ( R )"},
	{impl.AImm, 8, "# E"},
	{impl.AAbs, 9, "@ # E"},
	{impl.ARel, 10, "E"},
	{impl.ARelI, 11, "@ E"},
}

func (f argForm) hasReg() bool { return strings.Contains(f.text, "R") }

func (f argForm) hasTerm() bool { return strings.Contains(f.text, "E") }

// arg is one of this form that is right.
func (f argForm) arg(reg int, e impl.Expr) impl.Arg {
	a := impl.Arg{Form: f.form}
	if f.hasReg() {
		a.Reg = reg
	}
	if f.hasTerm() {
		a.E = e
	}
	return a
}

var noForms = []int{-1, -2, -11, 12, 13, 256, 256 + 8, 65536, 1 << 32, 1<<32 + 6, math.MinInt, math.MaxInt}

// noRegs are numbers just outside the registers, and far outside.
var noRegs = []int{-1, -7, -8, 8, 9, 15, 256, 65536, 65536 + 1, 1 << 32, 1<<32 + 7, math.MinInt, math.MaxInt}

func isNothing(e impl.Expr) bool { return sameTerm(e, impl.Expr{}) }

func wantArgOk(a impl.Arg) bool {
	for _, f := range argForms {
		if f.number != a.Form {
			continue
		}
		reg := a.Reg == 0 || f.hasReg() && a.Reg > 0 && a.Reg < 8
		if f.hasTerm() {
			return reg && impl.PlainOk(a.E)
		}
		return reg && isNothing(a.E)
	}
	return false
}

// wantArgText is of what is right.
func wantArgText(a impl.Arg) string {
	var l []string
	for _, part := range strings.Fields(argForms[a.Form].text) {
		switch part {
		case "R":
			part = regTexts[a.Reg]
		case "E":
			part = wantText(a.E)
		}
		l = append(l, part)
	}
	return strings.Join(l, " ")
}

func checkArg(t *testing.T, a impl.Arg, want string) {
	t.Helper()
	if !impl.ArgOk(a) {
		t.Errorf("ArgOk of %v: false", a)
	}
	if got := impl.ArgText(a); got != want {
		t.Errorf("ArgText of %v: %q, want %q", a, got, want)
	}
}

// checkNoArg wants that it is no operand of a line, either.
func checkNoArg(t *testing.T, a impl.Arg) {
	t.Helper()
	if impl.ArgOk(a) {
		t.Errorf("ArgOk of %.300s: true", fmt.Sprint(a))
	}
	if got := impl.ArgText(a); got != "" {
		t.Errorf("ArgText of %.300s: %q", fmt.Sprint(a), got)
	}
	var r impl.Arg
	for _, x := range []impl.Line{{Op: impl.OMov, Src: a, Dst: r}, {Op: impl.OMov, Src: r, Dst: a}, {Op: impl.OClr, Dst: a}, {Op: impl.OJsr, Dst: a}} {
		x.K = impl.LIns
		checkNoLine(t, x)
	}
}

func checkLine(t *testing.T, x impl.Line, want string) {
	t.Helper()
	if !impl.LineOk(x) {
		t.Errorf("LineOk of %v: false", x)
	}
	if got := impl.LineText(x); got != want {
		t.Errorf("LineText of %v: %q, want %q", x, got, want)
	}
}

func checkNoLine(t *testing.T, x impl.Line) {
	t.Helper()
	if impl.LineOk(x) {
		t.Errorf("LineOk of %.300s: true", fmt.Sprint(x))
	}
	if got := impl.LineText(x); got != "" {
		t.Errorf("LineText of %.300s: %q", fmt.Sprint(x), got)
	}
}

func TestLineConstants(t *testing.T) {
	for i, f := range argForms {
		if f.form != i || f.number != i {
			t.Error("form", i, "is", f.form)
		}
	}
	for i, k := range []int{impl.LNone, impl.LLabel, impl.LSet, impl.LIns, impl.LWord, impl.LBlk, impl.LSect, impl.LGlob, impl.LEnd} {
		if i != k {
			t.Error("kind", i, "is", k)
		}
	}
}

func TestArgsWrittenOut(t *testing.T) {
	a, deep := symExpr("a"), pairExpr(impl.XSub, negExpr(symExpr("b")), numExpr(8))
	for s, x := range map[string]impl.Arg{
		"r0":                  {},
		"r5":                  {Reg: 5},
		"sp":                  {Reg: 6},
		"pc":                  {Reg: 7},
		"( r0 )":              {Form: impl.AInd},
		"( pc )":              {Form: impl.AInd, Reg: 7},
		"( r0 ) +":            {Form: impl.AInc},
		"( sp ) +":            {Form: impl.AInc, Reg: 6},
		"@ ( r0 ) +":          {Form: impl.AIncI},
		"@ ( r3 ) +":          {Form: impl.AIncI, Reg: 3},
		"- ( r0 )":            {Form: impl.ADec},
		"- ( sp )":            {Form: impl.ADec, Reg: 6},
		"@ - ( r0 )":          {Form: impl.ADecI},
		"@ - ( r4 )":          {Form: impl.ADecI, Reg: 4},
		"a ( r0 )":            {Form: impl.AIdx, E: a},
		"- a ( r2 )":          {Form: impl.AIdx, Reg: 2, E: negExpr(a)},
		"0 ( r1 )":            {Form: impl.AIdx, Reg: 1, E: numExpr(0)},
		"< - b - 10 > ( pc )": {Form: impl.AIdx, Reg: 7, E: deep},
		"@ a ( r0 )":          {Form: impl.AIdxI, E: a},
		"@ . ( r1 )":          {Form: impl.AIdxI, Reg: 1, E: hereExpr},
		"# a":                 {Form: impl.AImm, E: a},
		"# 0":                 {Form: impl.AImm, E: numExpr(0)},
		"# 177777":            {Form: impl.AImm, E: numExpr(65535)},
		"# - 1":               {Form: impl.AImm, E: negExpr(numExpr(1))},
		"@ # a":               {Form: impl.AAbs, E: a},
		"@ # < - b - 10 >":    {Form: impl.AAbs, E: deep},
		"a":                   {Form: impl.ARel, E: a},
		"0":                   {Form: impl.ARel, E: numExpr(0)},
		".":                   {Form: impl.ARel, E: hereExpr},
		"- a":                 {Form: impl.ARel, E: negExpr(a)},
		"@ a":                 {Form: impl.ARelI, E: a},
		"@ - a":               {Form: impl.ARelI, E: negExpr(a)},
		"@ < - b - 10 >":      {Form: impl.ARelI, E: deep},
	} {
		checkArg(t, x, s)
		if got := wantArgText(x); got != s || !wantArgOk(x) {
			t.Errorf("this test tells %v wrongly: %q", x, got)
		}
	}
}

// someTerms are plain ones: all leaves, alone and in each way within others, up to six deep.
func someTerms() []impl.Expr {
	l := plainLeaves()
	for _, w := range wrappers() {
		for _, e := range []impl.Expr{symExpr("a"), numExpr(8), hereExpr} {
			l = append(l, w.wrap(e), within(e, w, 2))
		}
		l = append(l, within(symExpr("sixlet"), w, 5))
	}
	return l
}

func TestEachFormAtEachRegister(t *testing.T) {
	for _, f := range argForms {
		for reg := range 8 {
			for _, e := range someTerms() {
				a := f.arg(reg, e)
				checkArg(t, a, wantArgText(a))
			}
		}
	}
}

func TestArgsOfNoForm(t *testing.T) {
	for _, form := range noForms {
		for _, e := range []impl.Expr{{}, symExpr("a"), globExpr("a")} {
			for _, reg := range []int{0, 1, 7, 8, -1} {
				checkNoArg(t, impl.Arg{Form: form, Reg: reg, E: e})
			}
		}
	}
}

func TestRegistersOfArgs(t *testing.T) {
	for _, f := range argForms {
		a := f.arg(0, symExpr("a"))
		for _, reg := range noRegs {
			a.Reg = reg
			checkNoArg(t, a)
		}
		for reg := range 8 {
			a.Reg = reg
			if f.hasReg() || reg == 0 {
				checkArg(t, a, wantArgText(a))
			} else {
				checkNoArg(t, a)
			}
		}
		if f.hasReg() != (f.form <= impl.AIdxI) {
			t.Error("this test tells the registers of form", f.form, "wrongly")
		}
	}
}

func TestTermsOfArgs(t *testing.T) {
	for _, f := range argForms {
		if f.hasTerm() != (f.form >= impl.AIdx) {
			t.Error("this test tells the terms of form", f.form, "wrongly")
		}
		for _, reg := range []int{0, 7} {
			checkTermsOfArg(t, f, f.arg(reg, impl.Expr{}))
		}
	}
}

// checkTermsOfArg lays into a, which has no term, right terms and others.
func checkTermsOfArg(t *testing.T, f argForm, a impl.Arg) {
	t.Helper()
	if f.hasTerm() {
		checkNoArg(t, a)
	} else {
		checkArg(t, a, wantArgText(a))
	}
	for _, e := range someTerms() {
		a.E = e
		if f.hasTerm() {
			checkArg(t, a, wantArgText(a))
		} else {
			checkNoArg(t, a)
		}
	}
	for _, w := range wrappers() {
		for _, e := range []impl.Expr{sectExpr(0), globExpr("a")} {
			for times := range 6 {
				a.E = within(e, w, times)
				checkNoArg(t, a)
			}
		}
		a.E = within(symExpr("a"), w, 6)
		checkNoArg(t, a)
	}
	for _, e := range append(otherLeaves(), wrongTerms()...) {
		if isNothing(e) {
			continue
		}
		a.E = e
		checkNoArg(t, a)
		a.E = negExpr(e)
		checkNoArg(t, a)
	}
}

// fieldsOfTerms have one field alone that is not zero.
func fieldsOfTerms() []impl.Expr {
	var l []impl.Expr
	for _, n := range []int{1, 2, 3, -1, 12, 13, 65536, 1 << 32, math.MinInt, math.MaxInt} {
		l = append(l, impl.Expr{K: n}, impl.Expr{N: n})
	}
	for _, s := range []string{"a", " ", "\x00", "mov", "sevenle"} {
		l = append(l, impl.Expr{S: s})
	}
	for _, within := range [][]impl.Expr{{{}}, {symExpr("a")}, {numExpr(0), numExpr(0)}, make([]impl.Expr, 7)} {
		l = append(l, impl.Expr{L: within})
	}
	return l
}

func TestTermsThatNoFormNames(t *testing.T) {
	for _, f := range argForms {
		if f.hasTerm() {
			continue
		}
		for _, reg := range []int{0, 1, 7} {
			for _, e := range fieldsOfTerms() {
				checkNoArg(t, impl.Arg{Form: f.form, Reg: reg, E: e})
			}
			// An empty list and none are the same, whatever lies behind.
			for _, l := range [][]impl.Expr{{}, make([]impl.Expr, 0, 3), []impl.Expr{symExpr("a")}[:0]} {
				a := impl.Arg{Form: f.form, Reg: reg, E: impl.Expr{L: l}}
				checkArg(t, a, wantArgText(a))
			}
		}
	}
}

// A lineKind is what the document tells of a line, apart from what the program has; x is one that is right.
type lineKind struct {
	name               string
	x                  impl.Line
	s, src, dst        bool
	highestN           int
	fewest, most       int
	namesAlone, hasDot bool
}

func kindsBesideIns() []lineKind {
	a := []impl.Expr{symExpr("a")}
	return []lineKind{
		{name: "", x: impl.Line{K: impl.LNone}},
		{name: "label", x: impl.Line{K: impl.LLabel, S: "a"}, s: true},
		{name: "set", x: impl.Line{K: impl.LSet, S: "a", L: a}, s: true, fewest: 1, most: 1},
		{name: ".word", x: impl.Line{K: impl.LWord, L: a}, fewest: 1, most: 6, hasDot: true},
		{name: ".blkw", x: impl.Line{K: impl.LBlk, L: a}, fewest: 1, most: 1, hasDot: true},
		{name: ".sect", x: impl.Line{K: impl.LSect, S: "a"}, s: true, highestN: 1, hasDot: true},
		{name: ".globl", x: impl.Line{K: impl.LGlob, L: a}, fewest: 1, most: 6, namesAlone: true, hasDot: true},
		{name: ".end", x: impl.Line{K: impl.LEnd}, hasDot: true},
	}
}

func insKinds() []lineKind {
	var l []lineKind
	for _, k := range opKinds() {
		x := lineKind{name: k.name, x: impl.Line{K: impl.LIns, Op: k.number}, src: k.src, dst: k.dst}
		switch k.name {
		case "jsr", "rts":
			x.highestN = 7
		case "br", "bne", "beq", "bge", "blt", "emt":
			x.fewest, x.most = 1, 1
			x.x.L = []impl.Expr{symExpr("a")}
		}
		l = append(l, x)
	}
	return l
}

var lineKinds = append(kindsBesideIns(), insKinds()...)

// kindOfLine is false of what is none.
func kindOfLine(x impl.Line) (lineKind, bool) {
	for _, k := range lineKinds {
		if k.x.K == x.K && k.x.Op == x.Op {
			return k, true
		}
	}
	return lineKind{}, false
}

func wantName(s string) bool { return impl.PlainOk(symExpr(s)) }

func wantLineOk(x impl.Line) bool {
	k, ok := kindOfLine(x)
	if !ok || x.N < 0 || x.N > k.highestN || len(x.L) < k.fewest || len(x.L) > k.most {
		return false
	}
	if k.s && !wantName(x.S) || !k.s && x.S != "" {
		return false
	}
	if k.src && !wantArgOk(x.Src) || !k.src && !isNoArg(x.Src) {
		return false
	}
	if k.dst && !wantArgOk(x.Dst) || !k.dst && !isNoArg(x.Dst) {
		return false
	}
	for _, e := range x.L {
		if !impl.PlainOk(e) || k.namesAlone && e.K != impl.XSym {
			return false
		}
	}
	return true
}

func isNoArg(a impl.Arg) bool { return a.Form == 0 && a.Reg == 0 && isNothing(a.E) }

// wantLineText is of what is right.
func wantLineText(x impl.Line) string {
	k, _ := kindOfLine(x)
	var l []string
	switch {
	case x.K == impl.LNone:
		return ""
	case x.K == impl.LLabel:
		return x.S + " :"
	case x.K == impl.LSet:
		return x.S + " = " + wantText(x.L[0])
	case x.K == impl.LSect && x.N == 1:
		return ".sect " + x.S + " , over"
	case x.K == impl.LSect:
		return ".sect " + x.S
	case k.highestN == 7:
		l = append(l, regTexts[x.N])
	}
	if k.src {
		l = append(l, wantArgText(x.Src))
	}
	if k.dst {
		l = append(l, wantArgText(x.Dst))
	}
	for _, e := range x.L {
		l = append(l, wantText(e))
	}
	return strings.TrimSpace(k.name + " " + strings.Join(l, " , "))
}

func TestLinesWrittenOut(t *testing.T) {
	a, b := symExpr("a"), symExpr("b")
	sum := pairExpr(impl.XAdd, a, numExpr(8))
	ins := func(x impl.Line) impl.Line {
		x.K = impl.LIns
		return x
	}
	for s, x := range map[string]impl.Line{
		"":                               {},
		"a :":                            {K: impl.LLabel, S: "a"},
		"sixlet :":                       {K: impl.LLabel, S: "sixlet"},
		"over :":                         {K: impl.LLabel, S: "over"},
		"a = b":                          {K: impl.LSet, S: "a", L: []impl.Expr{b}},
		"a = a":                          {K: impl.LSet, S: "a", L: []impl.Expr{a}},
		"a = < a + 10 >":                 {K: impl.LSet, S: "a", L: []impl.Expr{sum}},
		"a = .":                          {K: impl.LSet, S: "a", L: []impl.Expr{hereExpr}},
		"mov r0 , r0":                    ins(impl.Line{Op: impl.OMov}),
		"mov r1 , r0":                    ins(impl.Line{Op: impl.OMov, Src: impl.Arg{Reg: 1}}),
		"mov r0 , r1":                    ins(impl.Line{Op: impl.OMov, Dst: impl.Arg{Reg: 1}}),
		"cmp # 0 , ( r0 )":               ins(impl.Line{Op: impl.OCmp, Src: impl.Arg{Form: impl.AImm, E: numExpr(0)}, Dst: impl.Arg{Form: impl.AInd}}),
		"add < a + 10 > ( r2 ) , @ # b":  ins(impl.Line{Op: impl.OAdd, Src: impl.Arg{Form: impl.AIdx, Reg: 2, E: sum}, Dst: impl.Arg{Form: impl.AAbs, E: b}}),
		"sub - ( sp ) , @ - a":           ins(impl.Line{Op: impl.OSub, Src: impl.Arg{Form: impl.ADec, Reg: 6}, Dst: impl.Arg{Form: impl.ARelI, E: negExpr(a)}}),
		"clr r0":                         ins(impl.Line{Op: impl.OClr}),
		"clr ( r0 ) +":                   ins(impl.Line{Op: impl.OClr, Dst: impl.Arg{Form: impl.AInc}}),
		"jmp @ ( sp ) +":                 ins(impl.Line{Op: impl.OJmp, Dst: impl.Arg{Form: impl.AIncI, Reg: 6}}),
		"jsr r0 , r0":                    ins(impl.Line{Op: impl.OJsr}),
		"jsr r0 , a":                     ins(impl.Line{Op: impl.OJsr, Dst: impl.Arg{Form: impl.ARel, E: a}}),
		"jsr pc , a":                     ins(impl.Line{Op: impl.OJsr, N: 7, Dst: impl.Arg{Form: impl.ARel, E: a}}),
		"jsr r1 , r2":                    ins(impl.Line{Op: impl.OJsr, N: 1, Dst: impl.Arg{Reg: 2}}),
		"rts r0":                         ins(impl.Line{Op: impl.ORts}),
		"rts sp":                         ins(impl.Line{Op: impl.ORts, N: 6}),
		"br .":                           ins(impl.Line{Op: impl.OBr, L: []impl.Expr{hereExpr}}),
		"bne < a + 10 >":                 ins(impl.Line{Op: impl.OBne, L: []impl.Expr{sum}}),
		"beq 0":                          ins(impl.Line{Op: impl.OBeq, L: []impl.Expr{numExpr(0)}}),
		"bge - 1":                        ins(impl.Line{Op: impl.OBge, L: []impl.Expr{negExpr(numExpr(1))}}),
		"blt 177777":                     ins(impl.Line{Op: impl.OBlt, L: []impl.Expr{numExpr(65535)}}),
		"halt":                           ins(impl.Line{Op: impl.OHalt}),
		"emt 0":                          ins(impl.Line{Op: impl.OEmt, L: []impl.Expr{numExpr(0)}}),
		"emt 1000":                       ins(impl.Line{Op: impl.OEmt, L: []impl.Expr{numExpr(512)}}),
		".word 0":                        {K: impl.LWord, L: []impl.Expr{numExpr(0)}},
		".word a , b":                    {K: impl.LWord, L: []impl.Expr{a, b}},
		".word a , a , . , - b , 1 , 10": {K: impl.LWord, L: []impl.Expr{a, a, hereExpr, negExpr(b), numExpr(1), numExpr(8)}},
		".blkw 10":                       {K: impl.LBlk, L: []impl.Expr{numExpr(8)}},
		".blkw < a + 10 >":               {K: impl.LBlk, L: []impl.Expr{sum}},
		".sect a":                        {K: impl.LSect, S: "a"},
		".sect a , over":                 {K: impl.LSect, S: "a", N: 1},
		".sect over":                     {K: impl.LSect, S: "over"},
		".sect over , over":              {K: impl.LSect, S: "over", N: 1},
		".globl a":                       {K: impl.LGlob, L: []impl.Expr{a}},
		".globl a , over":                {K: impl.LGlob, L: []impl.Expr{a, symExpr("over")}},
		".globl a , a , b , a , b , b":   {K: impl.LGlob, L: []impl.Expr{a, a, b, a, b, b}},
		".end":                           {K: impl.LEnd},
	} {
		checkLine(t, x, s)
		if got := wantLineText(x); got != s || !wantLineOk(x) {
			t.Errorf("this test tells %v wrongly: %q", x, got)
		}
	}
}

func TestEachKindOfLine(t *testing.T) {
	if n := len(lineKinds); n != 8+23 {
		t.Fatal("kinds:", n)
	}
	for _, k := range lineKinds {
		checkLine(t, k.x, wantLineText(k.x))
		if strings.HasPrefix(impl.LineText(k.x), ".") != k.hasDot {
			t.Errorf("%q", impl.LineText(k.x))
		}
		// An empty list and none are the same.
		x := k.x
		x.Src.E.L = []impl.Expr{}
		x.Dst.E.L = []impl.Expr{symExpr("b")}[:0]
		if len(x.L) == 0 {
			x.L = []impl.Expr{symExpr("b")}[:0]
		}
		checkLine(t, x, wantLineText(k.x))
	}
}

func TestLinesOfNoKind(t *testing.T) {
	for _, kind := range []int{-1, -2, -3, -8, 9, 10, 256, 256 + 1, 65536 + 3, 1 << 32, 1<<32 + 3, 1<<32 + 8, math.MinInt, math.MaxInt} {
		for _, k := range lineKinds {
			x := k.x
			x.K = kind
			checkNoLine(t, x)
		}
	}
}

// Each line as one of each other kind: right only where that names the same fields.
func TestLinesOfAnotherKind(t *testing.T) {
	for _, k := range lineKinds {
		for kind := impl.LNone; kind <= impl.LEnd; kind++ {
			x := k.x
			x.K = kind
			checkAgainstTold(t, x)
		}
		for op := -1; op <= 24; op++ {
			x := k.x
			x.Op = op
			checkAgainstTold(t, x)
		}
	}
}

// checkAgainstTold answers whether it is right.
func checkAgainstTold(t *testing.T, x impl.Line) bool {
	t.Helper()
	if !wantLineOk(x) {
		checkNoLine(t, x)
		return false
	}
	checkLine(t, x, wantLineText(x))
	return true
}

func namedAlone() []impl.Arg {
	l := []impl.Arg{
		{Reg: 1}, {Reg: 7}, {Reg: 8}, {Reg: -1}, {Reg: math.MinInt}, {Form: -1}, {Form: 12}, {Form: math.MaxInt},
		{Form: impl.AInd, Reg: 3}, {Form: impl.AImm, E: numExpr(0)}, {Form: impl.ARel, E: symExpr("a")},
	}
	for _, f := range argForms[1:] {
		l = append(l, impl.Arg{Form: f.form})
	}
	for _, e := range fieldsOfTerms() {
		l = append(l, impl.Arg{E: e})
	}
	return l
}

// Of each kind each field alone that is not zero where it is not named.
func TestFieldsThatNoKindNames(t *testing.T) {
	numbers := []int{1, 2, 7, 8, -1, -128, 127, 255, 65536, 1 << 32, math.MinInt, math.MaxInt}
	for _, k := range lineKinds {
		if !k.s {
			for _, s := range []string{"a", "sixlet", " ", "\x00", "mov", "sevenle", ".", "over"} {
				x := k.x
				x.S = s
				checkNoLine(t, x)
			}
		}
		if k.x.K != impl.LIns {
			for op := -1; op <= 24; op++ {
				x := k.x
				x.Op = op
				if op != 0 {
					checkNoLine(t, x)
				}
			}
			for _, op := range noOps {
				x := k.x
				x.Op = op
				if op != 0 {
					checkNoLine(t, x)
				}
			}
		}
		for _, a := range namedAlone() {
			src, dst := k.x, k.x
			src.Src, dst.Dst = a, a
			if !k.src {
				checkNoLine(t, src)
			}
			if !k.dst {
				checkNoLine(t, dst)
			}
		}
		for _, n := range numbers {
			x := k.x
			x.N = n
			if k.highestN == 0 {
				checkNoLine(t, x)
			}
		}
		if k.most == 0 {
			for _, l := range [][]impl.Expr{{symExpr("a")}, {numExpr(0)}, {{}}, {symExpr("a"), symExpr("b")}, make([]impl.Expr, 6)} {
				x := k.x
				x.L = l
				checkNoLine(t, x)
			}
		}
	}
}

func TestNamesOfLines(t *testing.T) {
	right := []string{"a", "z", "a0", "ab", "sixlet", "a12345", "zzzzzz", "r6", "r7", "mova", "over", "word", "main"}
	wrong := []string{
		"", " ", "sevenle", "a123456", "aaaaaaa", strings.Repeat("a", 1000), "A", "aB", "0", "0a", ".", ".a", "a.", "-a", "a b", " a", "a ", "a\n", "a;", "a_", "$", "\x00", "a\x00", "\xff", "a\xff", "\u00e4", "a:", ":", "<",
	}
	for _, k := range lineKinds {
		for _, s := range right {
			x := k.x
			if x.S = s; k.s {
				checkLine(t, x, wantLineText(x))
			}
			if k.namesAlone {
				checkLine(t, impl.Line{K: k.x.K, L: []impl.Expr{symExpr(s)}}, ".globl "+s)
			}
		}
		for _, s := range append(wrong, keptTexts...) {
			x := k.x
			if x.S = s; k.s {
				checkNoLine(t, x)
			}
			if k.namesAlone {
				checkNoLine(t, impl.Line{K: k.x.K, L: []impl.Expr{symExpr(s)}})
			}
		}
	}
}

// someArgs are of each form, at the first, the last and another register.
func someArgs() []impl.Arg {
	var l []impl.Arg
	for _, f := range argForms {
		for _, reg := range []int{0, 3, 7} {
			if reg > 0 && !f.hasReg() {
				continue
			}
			l = append(l, f.arg(reg, symExpr("a")))
			if f.hasTerm() {
				l = append(l, f.arg(reg, pairExpr(impl.XSub, negExpr(hereExpr), numExpr(8))))
			}
		}
	}
	return l
}

func wrongArgs() []impl.Arg {
	return []impl.Arg{
		{Form: -1}, {Form: 12}, {Form: 12, E: symExpr("a")}, {Reg: -1}, {Reg: 8}, {E: symExpr("a")}, {E: impl.Expr{N: 1}},
		{Form: impl.AIdxI, Reg: 8, E: symExpr("a")}, {Form: impl.AIdx}, {Form: impl.AImm}, {Form: impl.AImm, Reg: 1, E: symExpr("a")}, {Form: impl.ARelI, Reg: 7, E: symExpr("a")},
		{Form: impl.AIdx, E: globExpr("a")}, {Form: impl.ARel, E: sectExpr(0)}, {Form: impl.AAbs, E: symExpr("mov")}, {Form: impl.AImm, E: numExpr(65536)},
	}
}

func TestOperandsOfEachOp(t *testing.T) {
	for _, k := range insKinds() {
		for _, a := range someArgs() {
			for _, b := range someArgs() {
				x := k.x
				x.Src, x.Dst = a, b
				if checkAgainstTold(t, x) != ((k.src || isNoArg(a)) && (k.dst || isNoArg(b))) {
					t.Errorf("this test tells %v wrongly", x)
				}
			}
			for _, wrong := range wrongArgs() {
				one, other, both := k.x, k.x, k.x
				one.Src, one.Dst = wrong, a
				other.Src, other.Dst = a, wrong
				both.Src, both.Dst = wrong, wrong
				checkNoLine(t, one)
				checkNoLine(t, other)
				checkNoLine(t, both)
			}
		}
	}
}

func TestLinesOfNoOp(t *testing.T) {
	a := impl.Arg{Reg: 1}
	for _, op := range noOps {
		for _, x := range []impl.Line{{}, {Src: a, Dst: a}, {Dst: a}, {N: 1}, {N: 1, Dst: a}, {L: []impl.Expr{symExpr("a")}}} {
			x.K, x.Op = impl.LIns, op
			checkNoLine(t, x)
		}
	}
}

func TestNumbersOfLines(t *testing.T) {
	for _, k := range lineKinds {
		for n := -130; n <= 260; n++ {
			x := k.x
			x.N = n
			if checkAgainstTold(t, x) != (n >= 0 && n <= k.highestN) {
				t.Errorf("this test tells %v wrongly", x)
			}
		}
		for _, n := range farNumbers {
			x := k.x
			x.N = n
			checkNoLine(t, x)
		}
	}
}

func TestHowManyTermsALineHas(t *testing.T) {
	for _, k := range lineKinds {
		for count := range 9 {
			x := k.x
			x.L = nil
			for i := range count {
				x.L = append(x.L, symExpr(string(rune('a'+i))))
			}
			if checkAgainstTold(t, x) != (count >= k.fewest && count <= k.most) {
				t.Errorf("this test tells %v wrongly", x)
			}
			// What lies behind the list is not read.
			x.L = append(x.L, impl.Expr{})[:count]
			checkAgainstTold(t, x)
		}
		x := k.x
		x.L = slices.Repeat([]impl.Expr{symExpr("a")}, 100000)
		checkNoLine(t, x)
	}
}

// Of each kind that has terms, each place with a term that is right, and with one that is not.
func TestTermsOfLines(t *testing.T) {
	var wrong []impl.Expr
	wrong = append(wrong, otherLeaves()...)
	wrong = append(wrong, wrongTerms()...)
	for _, w := range wrappers() {
		wrong = append(wrong, within(symExpr("a"), w, 6), w.wrap(globExpr("a")), within(sectExpr(1), w, 5))
	}
	for _, k := range lineKinds {
		for count := k.fewest; count <= k.most; count++ {
			for place := range count {
				x := k.x
				x.L = slices.Repeat([]impl.Expr{symExpr("b")}, count)
				for _, e := range someTerms() {
					x.L[place] = e
					if checkAgainstTold(t, x) != (!k.namesAlone || e.K == impl.XSym) {
						t.Errorf("this test tells %v wrongly", x)
					}
				}
				for _, e := range wrong {
					x.L[place] = e
					checkNoLine(t, x)
				}
			}
		}
	}
}

// A list may hold itself, and be shared so often that going through all of it would not end.
func TestLinesThatDoNotEnd(t *testing.T) {
	for _, e := range []impl.Expr{ring(1, hereExpr), ring(3, numExpr(1)), doubled(200, symExpr("a")), chain(100000, symExpr("a"))} {
		for form := -1; form <= 12; form++ {
			a := impl.Arg{Form: form, E: e}
			if impl.ArgOk(a) || impl.ArgText(a) != "" {
				t.Error("form", form)
			}
		}
		for _, k := range lineKinds {
			src, dst, l := k.x, k.x, k.x
			src.Src.E, dst.Dst.E = e, e
			l.L = slices.Repeat([]impl.Expr{e}, max(1, k.most))
			for _, x := range []impl.Line{src, dst, l} {
				if impl.LineOk(x) || impl.LineText(x) != "" {
					t.Errorf("%q", k.name)
				}
			}
		}
	}
}

// The longest line of all is still read.
func TestTheLongestLines(t *testing.T) {
	full := fullTree(6, func() impl.Expr { return symExpr("sixlet") })
	for _, k := range lineKinds {
		x := k.x
		if k.src {
			x.Src = impl.Arg{Form: impl.AIdxI, Reg: 7, E: full}
		}
		if k.dst {
			x.Dst = impl.Arg{Form: impl.AIdxI, Reg: 7, E: full}
		}
		if k.most > 0 && !k.namesAlone {
			x.L = slices.Repeat([]impl.Expr{full}, k.most)
		}
		checkLine(t, x, wantLineText(x))
		checkReadAgain(t, impl.LineText(x))
	}
}

// checkReadAgain wants that a text is just that of its own tokens.
func checkReadAgain(t *testing.T, s string) {
	t.Helper()
	l, ok := impl.Lex(s)
	if back := impl.LineOf(l); !ok || back != s {
		t.Errorf("Lex of %q: %q, %v", s, back, ok)
	}
}

func sameArg(a, b impl.Arg) bool { return a.Form == b.Form && a.Reg == b.Reg && sameTerm(a.E, b.E) }

func sameLine(a, b impl.Line) bool {
	return a.K == b.K && a.S == b.S && a.Op == b.Op && sameArg(a.Src, b.Src) && sameArg(a.Dst, b.Dst) && a.N == b.N && slices.EqualFunc(a.L, b.L, sameTerm)
}

func TestArgsHaveOneTextEach(t *testing.T) {
	texts := map[string]impl.Arg{}
	terms := smallTerms(2, []impl.Expr{symExpr("a"), symExpr("b"), numExpr(0), numExpr(8), hereExpr})
	for _, e := range slices.Clone(terms[:40]) {
		terms = append(terms, negExpr(negExpr(e)), pairExpr(impl.XSub, negExpr(e), e), pairExpr(impl.XSub, e, negExpr(e)))
	}
	for _, f := range argForms {
		for reg := range 8 {
			for _, e := range terms {
				a := f.arg(reg, e)
				s := impl.ArgText(a)
				if b, again := texts[s]; s == "" || again && !sameArg(a, b) {
					t.Fatalf("%q is the text of %v and %v", s, a, b)
				}
				texts[s] = a
				checkReadAgain(t, s)
			}
		}
	}
	if want := 6*8 + (2*8+4)*len(terms); len(texts) < want*9/10 {
		t.Error("texts:", len(texts), "of", want)
	}
}

// turnedLines are right and wrong ones that differ from x in one field.
func turnedLines(x impl.Line) []impl.Line {
	var l []impl.Line
	turn := func(change func(y *impl.Line)) {
		y := x
		y.L = slices.Clone(x.L)
		change(&y)
		l = append(l, y)
	}
	for _, n := range []int{-1, 1} {
		turn(func(y *impl.Line) { y.K += n })
		turn(func(y *impl.Line) { y.Op += n })
		turn(func(y *impl.Line) { y.N += n })
	}
	for _, s := range []string{"", "a", "b", "over", x.S + "a"} {
		if s != x.S {
			turn(func(y *impl.Line) { y.S = s })
		}
	}
	for _, a := range someArgs() {
		if !sameArg(a, x.Src) {
			turn(func(y *impl.Line) { y.Src = a })
		}
		if !sameArg(a, x.Dst) {
			turn(func(y *impl.Line) { y.Dst = a })
		}
	}
	for i, e := range x.L {
		for _, part := range turned(e) {
			turn(func(y *impl.Line) { y.L[i] = part })
		}
		turn(func(y *impl.Line) { y.L = slices.Delete(y.L, i, i+1) })
	}
	turn(func(y *impl.Line) { y.L = append(y.L, symExpr("a")) })
	if len(x.L) > 1 && !sameTerm(x.L[0], x.L[1]) {
		turn(func(y *impl.Line) { y.L[0], y.L[1] = y.L[1], y.L[0] })
	}
	if !sameArg(x.Src, x.Dst) {
		turn(func(y *impl.Line) { y.Src, y.Dst = y.Dst, y.Src })
	}
	return l
}

// anyLine is one that is right.
func anyLine(next func(n int) int) impl.Line {
	k := lineKinds[next(len(lineKinds))]
	x := k.x
	if k.s {
		x.S = []string{"a", "b", "over", "sixlet"}[next(4)]
	}
	if k.src {
		x.Src = argForms[next(12)].arg(next(8), anyTerm(next, 6, true))
	}
	if k.dst {
		x.Dst = argForms[next(12)].arg(next(8), anyTerm(next, 6, true))
	}
	x.N = next(k.highestN + 1)
	x.L = nil
	for range k.fewest + next(k.most-k.fewest+1) {
		if k.namesAlone {
			x.L = append(x.L, symExpr([]string{"a", "b", "over", "sixlet"}[next(4)]))
		} else {
			x.L = append(x.L, anyTerm(next, 6, true))
		}
	}
	return x
}

func TestLinesHaveOneTextEach(t *testing.T) {
	texts := map[string]impl.Line{}
	seen := func(x impl.Line) {
		s := impl.LineText(x)
		if y, again := texts[s]; again && !sameLine(x, y) {
			t.Fatalf("%q is the text of %v and %v", s, x, y)
		}
		texts[s] = x
		checkReadAgain(t, s)
	}
	next := nextOf(12)
	var l []impl.Line
	for _, k := range lineKinds {
		l = append(l, k.x)
	}
	for range 2000 {
		l = append(l, anyLine(next))
	}
	right := 0
	for _, x := range l {
		if !checkAgainstTold(t, x) {
			t.Errorf("this test makes a wrong line: %v", x)
		}
		seen(x)
		for _, y := range turnedLines(x) {
			if checkAgainstTold(t, y) {
				seen(y)
				right++
			}
		}
	}
	if right < 10000 || len(texts) < 5000 {
		t.Error("right lines and texts:", right, len(texts))
	}
}

// Lines of any fields, mostly wrong ones.
func TestAnyLines(t *testing.T) {
	next := nextOf(112)
	args := slices.Concat(someArgs(), wrongArgs(), make([]impl.Arg, 60))
	terms := slices.Concat(someTerms(), otherLeaves(), wrongTerms())
	right := 0
	for range 200000 {
		x := lineKinds[next(len(lineKinds))].x
		if next(3) == 0 {
			x.S = []string{"", "a", "sixlet", "sevenle", "mov"}[next(5)]
		}
		if next(2) == 0 {
			x.Src = args[next(len(args))]
		}
		if next(2) == 0 {
			x.Dst = args[next(len(args))]
		}
		if next(3) == 0 {
			x.N = next(11) - 1
		}
		if next(3) == 0 {
			x.L = nil
			for range next(8) {
				x.L = append(x.L, terms[next(len(terms))])
			}
		}
		if checkAgainstTold(t, x) {
			right++
		}
	}
	if right < 10000 {
		t.Error("right:", right)
	}
}

func TestTextsOfLinesAreNewMemory(t *testing.T) {
	name := strings.Repeat("six", 2)
	e := symExpr(name)
	if s := impl.ArgText(impl.Arg{Form: impl.ARel, E: e}); s != name || shareText(s, name) {
		t.Errorf("%q shares the name's memory", s)
	}
	for _, k := range lineKinds {
		x := k.x
		if k.s {
			x.S = name
		}
		if k.most > 0 {
			x.L = []impl.Expr{e}
		}
		if s := impl.LineText(x); shareText(s, name) || s != wantLineText(x) {
			t.Errorf("%q shares the name's memory", s)
		}
		// The texts are no piece of what the program keeps: each is new.
		if s, again := impl.LineText(x), impl.LineText(x); shareText(s, again) {
			t.Errorf("%q is handed out twice", s)
		}
	}
	for reg := range 8 {
		if s, again := impl.ArgText(impl.Arg{Reg: reg}), impl.ArgText(impl.Arg{Reg: reg}); shareText(s, again) {
			t.Errorf("%q is handed out twice", s)
		}
	}
}

func TestTellingLinesWritesNothing(t *testing.T) {
	next := nextOf(212)
	for range 1000 {
		was := anyLine(next)
		if next(3) == 0 {
			was.Op = next(25)
		}
		if next(3) == 0 {
			was.L = append(was.L, anyTerm(next, 7, false))
		}
		x := was
		x.Src.E, x.Dst.E = roomyExpr(was.Src.E), roomyExpr(was.Dst.E)
		// A term that holds the line's has room behind its list, too.
		all := roomyExpr(impl.Expr{L: was.L})
		x.L = all.L
		checkAgainstTold(t, x)
		impl.ArgOk(x.Src)
		if s := impl.ArgText(x.Src); wantArgOk(was.Src) && s != wantArgText(was.Src) {
			t.Errorf("ArgText of %v with room behind: %q", was.Src, s)
		}
		checkRoomy(t, x.Src.E, was.Src.E)
		checkRoomy(t, x.Dst.E, was.Dst.E)
		checkRoomy(t, all, impl.Expr{L: was.L})
	}
}

// Nothing is kept from one line to the next.
func TestLinesOfNothingKept(t *testing.T) {
	full := impl.Line{K: impl.LWord, L: slices.Repeat([]impl.Expr{symExpr("a")}, 6)}
	more := impl.Line{K: impl.LWord, L: slices.Repeat([]impl.Expr{symExpr("a")}, 7)}
	for range 3 {
		checkLine(t, full, ".word a , a , a , a , a , a")
		checkNoLine(t, more)
		checkLine(t, impl.Line{}, "")
		checkNoArg(t, impl.Arg{Reg: 8})
		checkArg(t, impl.Arg{}, "r0")
		checkLine(t, impl.Line{K: impl.LIns, Op: impl.OClr}, "clr r0")
	}
}

// Operands embed their terms.
func TestOperandsEmbedTheirTerms(t *testing.T) {
	_, files := programFiles(t)
	f := files["l12_line.go"]
	if f == nil {
		t.Fatal("no l12_line.go")
	}
	embedded := 0
	ast.Inspect(f, func(n ast.Node) bool {
		x, ok := n.(*ast.StructType)
		if !ok {
			return true
		}
		for _, field := range x.Fields.List {
			if name, ok := field.Type.(*ast.Ident); ok && len(field.Names) == 0 && name.Name == "term" {
				embedded++
			}
		}
		return true
	})
	if embedded == 0 {
		t.Error("no operand that embeds its term")
	}
}
