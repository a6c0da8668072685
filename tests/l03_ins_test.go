package tests

import (
	"go/ast"
	"math"
	"testing"

	"loop.example/g00329/impl"
)

// farNumbers are those that no field of an operand takes.
var farNumbers = []int{-1, -2, -8, -65536, 65536, 65537, 65536 + 7, 1 << 32, 1<<32 + 7, math.MinInt, math.MaxInt}

// opKind is what the document tells of an Op, apart from what the program has.
type opKind struct {
	name             string
	op, number       int
	src, dst         bool
	nLeast, nHighest int
}

func opKinds() []opKind {
	return []opKind{
		{"mov", impl.OMov, 1, true, true, 0, 0},
		{"cmp", impl.OCmp, 2, true, true, 0, 0},
		{"bic", impl.OBic, 3, true, true, 0, 0},
		{"bis", impl.OBis, 4, true, true, 0, 0},
		{"add", impl.OAdd, 5, true, true, 0, 0},
		{"sub", impl.OSub, 6, true, true, 0, 0},
		{"clr", impl.OClr, 7, false, true, 0, 0},
		{"inc", impl.OInc, 8, false, true, 0, 0},
		{"dec", impl.ODec, 9, false, true, 0, 0},
		{"neg", impl.ONeg, 10, false, true, 0, 0},
		{"tst", impl.OTst, 11, false, true, 0, 0},
		{"asr", impl.OAsr, 12, false, true, 0, 0},
		{"asl", impl.OAsl, 13, false, true, 0, 0},
		{"jmp", impl.OJmp, 14, false, true, 0, 0},
		{"jsr", impl.OJsr, 15, false, true, 0, 7},
		{"rts", impl.ORts, 16, false, false, 0, 7},
		{"br", impl.OBr, 17, false, false, -128, 127},
		{"bne", impl.OBne, 18, false, false, -128, 127},
		{"beq", impl.OBeq, 19, false, false, -128, 127},
		{"bge", impl.OBge, 20, false, false, -128, 127},
		{"blt", impl.OBlt, 21, false, false, -128, 127},
		{"halt", impl.OHalt, 22, false, false, 0, 0},
		{"emt", impl.OEmt, 23, false, false, 0, 255},
	}
}

var noOps = []int{0, -1, -23, 24, 25, 256 + 1, 65536 + 1, 1<<32 + 1, math.MinInt, math.MaxInt}

// A row a Mode, a digit a Reg: whether the operand has a word.
var wordsOfModes = [8]string{"00000000", "00000000", "00000001", "00000001", "00000000", "00000000", "11111111", "11111111"}

// eachOpd goes through every Mode and Reg, and tells whether these have a word.
func eachOpd(visit func(o impl.Opd, hasX bool)) {
	for mode, row := range wordsOfModes {
		for reg, digit := range row {
			visit(impl.Opd{Mode: mode, Reg: reg}, digit == '1')
		}
	}
}

func checkHasX(t *testing.T, o impl.Opd, want bool) {
	t.Helper()
	if impl.HasX(o) != want {
		t.Errorf("HasX of %+v is not %v", o, want)
	}
}

func checkOpdOk(t *testing.T, o impl.Opd, want bool) {
	t.Helper()
	if impl.OpdOk(o) != want {
		t.Errorf("OpdOk of %+v is not %v", o, want)
	}
}

func checkInsOk(t *testing.T, x impl.Ins, want bool) {
	t.Helper()
	if impl.InsOk(x) != want {
		t.Errorf("InsOk of %+v is not %v", x, want)
	}
}

func checkWords(t *testing.T, x impl.Ins, want int) {
	t.Helper()
	if n := impl.Words(x); n != want {
		t.Errorf("Words of %+v: %d, want %d", x, n, want)
	}
}

func TestOpsHaveTheirNumbers(t *testing.T) {
	kinds := opKinds()
	if len(kinds) != 23 {
		t.Fatal(len(kinds), "ops")
	}
	for _, k := range kinds {
		if k.op != k.number {
			t.Errorf("%s is %d, want %d", k.name, k.op, k.number)
		}
	}
}

func TestOpsAreConstantsWithIota(t *testing.T) {
	_, files := programFiles(t)
	f := files["l03_ins.go"]
	if f == nil {
		t.Fatal("no l03_ins.go")
	}
	found := false
	ast.Inspect(f, func(n ast.Node) bool {
		id, ok := n.(*ast.Ident)
		found = found || ok && id.Name == "iota"
		return true
	})
	if !found {
		t.Error("no iota")
	}
}

func TestHasXOfEveryModeAndReg(t *testing.T) {
	eachOpd(func(o impl.Opd, hasX bool) {
		for _, word := range []int{0, 1, 7, 65535, 65536, -1} {
			o.X = word
			checkHasX(t, o, hasX)
		}
	})
}

func TestHasXOutsideTheBounds(t *testing.T) {
	for _, mode := range append([]int{8, 9, 10, 14, 15, 64 + 6, 256 + 6}, farNumbers...) {
		for reg := -1; reg <= 8; reg++ {
			checkHasX(t, impl.Opd{Mode: mode, Reg: reg}, false)
		}
	}
	// Modes 6 and 7 ask for no Reg, the others for 7 alone.
	for _, reg := range append([]int{8, 9, 15, 64 + 7}, farNumbers...) {
		for mode := range 8 {
			checkHasX(t, impl.Opd{Mode: mode, Reg: reg}, mode >= 6)
		}
	}
}

func TestOpdOkOfEveryModeAndReg(t *testing.T) {
	eachOpd(func(o impl.Opd, hasX bool) {
		checkOpdOk(t, o, true)
		for _, word := range []int{1, 2, 7, 8, 255, 256, 32767, 32768, 65534, 65535} {
			o.X = word
			checkOpdOk(t, o, hasX)
		}
		for _, far := range farNumbers {
			o.X = far
			checkOpdOk(t, o, false)
		}
	})
}

func TestOpdOkOutsideTheBounds(t *testing.T) {
	for _, far := range append([]int{8, 9, 14, 15, 64 + 6}, farNumbers...) {
		for in := range 8 {
			for _, word := range []int{0, 5} {
				checkOpdOk(t, impl.Opd{Mode: far, Reg: in, X: word}, false)
				checkOpdOk(t, impl.Opd{Mode: in, Reg: far, X: word}, false)
				checkOpdOk(t, impl.Opd{Mode: far, Reg: far, X: word}, false)
			}
		}
	}
}

func TestInsOkOfEachOpsOperands(t *testing.T) {
	for _, k := range opKinds() {
		checkInsOk(t, impl.Ins{Op: k.op}, true)
		eachOpd(func(o impl.Opd, hasX bool) {
			for _, word := range []int{0, 1, 65535, 65536, -1} {
				o.X = word
				right := word == 0 || hasX && word <= 65535 && word >= 0
				named := o == impl.Opd{}
				checkInsOk(t, impl.Ins{Op: k.op, Src: o}, right && (k.src || named))
				checkInsOk(t, impl.Ins{Op: k.op, Dst: o}, right && (k.dst || named))
				checkInsOk(t, impl.Ins{Op: k.op, Src: o, Dst: o}, right && (k.src && k.dst || named))
			}
		})
	}
}

func TestInsOkOfOperandsOutsideTheBounds(t *testing.T) {
	good := impl.Opd{Mode: 6, Reg: 3, X: 65535}
	for _, k := range opKinds() {
		for _, far := range append([]int{8, 15}, farNumbers...) {
			for _, bad := range []impl.Opd{{Mode: far}, {Reg: far}, {X: far}, {Mode: far, Reg: 7}} {
				checkInsOk(t, impl.Ins{Op: k.op, Src: bad}, false)
				checkInsOk(t, impl.Ins{Op: k.op, Dst: bad}, false)
				checkInsOk(t, impl.Ins{Op: k.op, Src: bad, Dst: good}, false)
				checkInsOk(t, impl.Ins{Op: k.op, Src: good, Dst: bad}, false)
			}
		}
	}
}

func TestInsOkOfEachOpsNumber(t *testing.T) {
	for _, k := range opKinds() {
		for n := -300; n <= 300; n++ {
			checkInsOk(t, impl.Ins{Op: k.op, N: n}, n >= k.nLeast && n <= k.nHighest)
		}
		for _, n := range append([]int{65535, 65408, -65535}, farNumbers...) {
			if n < k.nLeast || n > k.nHighest {
				checkInsOk(t, impl.Ins{Op: k.op, N: n}, false)
			}
		}
	}
}

func TestInsOkOfNumberBesideOperands(t *testing.T) {
	o := impl.Opd{Mode: 7, Reg: 5, X: 9}
	for n := -1; n <= 8; n++ {
		checkInsOk(t, impl.Ins{Op: impl.OJsr, Dst: o, N: n}, n >= 0 && n <= 7)
		checkInsOk(t, impl.Ins{Op: impl.OAdd, Src: o, Dst: o, N: n}, n == 0)
		checkInsOk(t, impl.Ins{Op: impl.OJmp, Dst: o, N: n}, n == 0)
		checkInsOk(t, impl.Ins{Op: impl.ORts, Dst: o, N: n}, false)
	}
}

func TestInsOkOfWhatIsNoOp(t *testing.T) {
	for _, op := range noOps {
		checkInsOk(t, impl.Ins{Op: op}, false)
		checkInsOk(t, impl.Ins{Op: op, N: 1}, false)
		checkInsOk(t, impl.Ins{Op: op, Dst: impl.Opd{Reg: 1}}, false)
		checkInsOk(t, impl.Ins{Op: op, Src: impl.Opd{Mode: 6}, Dst: impl.Opd{Mode: 6}}, false)
	}
}

func TestWordsOfEachOp(t *testing.T) {
	for _, k := range opKinds() {
		checkWords(t, impl.Ins{Op: k.op}, 1)
		eachOpd(func(src impl.Opd, srcX bool) {
			eachOpd(func(dst impl.Opd, dstX bool) {
				want := 1
				if k.src && srcX {
					want++
				}
				if k.dst && dstX {
					want++
				}
				checkWords(t, impl.Ins{Op: k.op, Src: src, Dst: dst, N: k.nHighest}, want)
			})
		})
	}
}

func TestWordsWrittenOut(t *testing.T) {
	immediate, absolute := impl.Opd{Mode: 2, Reg: 7, X: 5}, impl.Opd{Mode: 3, Reg: 7, X: 64}
	index, stack, register := impl.Opd{Mode: 6, Reg: 1, X: 2}, impl.Opd{Mode: 2, Reg: 6}, impl.Opd{Reg: 7}
	checkWords(t, impl.Ins{Op: impl.OMov, Src: register, Dst: stack}, 1)
	checkWords(t, impl.Ins{Op: impl.OMov, Src: immediate, Dst: register}, 2)
	checkWords(t, impl.Ins{Op: impl.OCmp, Src: stack, Dst: index}, 2)
	checkWords(t, impl.Ins{Op: impl.OSub, Src: immediate, Dst: absolute}, 3)
	checkWords(t, impl.Ins{Op: impl.OTst, Dst: absolute}, 2)
	checkWords(t, impl.Ins{Op: impl.OJmp, Dst: stack}, 1)
	checkWords(t, impl.Ins{Op: impl.OJsr, Dst: index, N: 5}, 2)
	checkWords(t, impl.Ins{Op: impl.ORts, N: 7}, 1)
	checkWords(t, impl.Ins{Op: impl.OBlt, N: -128}, 1)
	checkWords(t, impl.Ins{Op: impl.OEmt, N: 255}, 1)
}

// What is not InsOk has words, too: those of the operands that its Op has.
func TestWordsOfWhatIsNotRight(t *testing.T) {
	index := impl.Opd{Mode: 6, Reg: 1, X: 2}
	checkWords(t, impl.Ins{Op: impl.OClr, Src: index}, 1)
	checkWords(t, impl.Ins{Op: impl.OClr, Src: index, Dst: index}, 2)
	checkWords(t, impl.Ins{Op: impl.OJsr, Src: index}, 1)
	checkWords(t, impl.Ins{Op: impl.ORts, Src: index, Dst: index}, 1)
	checkWords(t, impl.Ins{Op: impl.OBr, Src: index, Dst: index}, 1)
	checkWords(t, impl.Ins{Op: impl.OHalt, Src: index, Dst: index, N: 9}, 1)
	checkWords(t, impl.Ins{Op: impl.OEmt, Src: index, Dst: index, N: -1}, 1)
	checkWords(t, impl.Ins{Op: impl.OMov, Src: impl.Opd{Mode: 7, Reg: 8, X: -1}, Dst: index, N: 3}, 3)
	checkWords(t, impl.Ins{Op: impl.OMov, Src: impl.Opd{Mode: 8, Reg: 7}, Dst: impl.Opd{Mode: 2, Reg: 8}}, 1)
	for _, op := range noOps {
		checkWords(t, impl.Ins{Op: op, Src: index, Dst: index}, 1)
	}
}
