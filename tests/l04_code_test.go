package tests

import (
	"go/ast"
	"math"
	"slices"
	"testing"

	"loop.example/g00329/impl"
)

// codeTexts are the first words as the document writes them, by Op; b stands for N's lower eight bits, e for N.
var codeTexts = []string{
	1: "01ssdd", 2: "02ssdd", 3: "04ssdd", 4: "05ssdd", 5: "06ssdd", 6: "16ssdd",
	7: "0050dd", 8: "0052dd", 9: "0053dd", 10: "0054dd", 11: "0057dd", 12: "0062dd", 13: "0063dd", 14: "0001dd",
	15: "004ndd", 16: "00020n",
	17: "000400b", 18: "001000b", 19: "001400b", 20: "002000b", 21: "002400b",
	22: "000000", 23: "104000e",
}

// wantCode reads the document's text of an Op's first word, digit by digit.
func wantCode(x impl.Ins) int {
	word, added := 0, 0
	seen := map[rune]int{}
	for _, r := range codeTexts[x.Op] {
		digit := 0
		switch r {
		case 's':
			digit = []int{x.Src.Mode, x.Src.Reg}[seen[r]]
		case 'd':
			digit = []int{x.Dst.Mode, x.Dst.Reg}[seen[r]]
		case 'n':
			digit = x.N
		case 'b':
			added = (x.N + 256) % 256
			continue
		case 'e':
			added = x.N
			continue
		default:
			digit = int(r - '0')
		}
		seen[r]++
		word = word*8 + digit
	}
	return word + added
}

// wantCodes is the whole of an instruction's words; which operands have one is told by wordsOfModes.
func wantCodes(x impl.Ins) []int {
	l := []int{wantCode(x)}
	for _, o := range []impl.Opd{x.Src, x.Dst} {
		if wordsOfModes[o.Mode][o.Reg] == '1' {
			l = append(l, o.X)
		}
	}
	return l
}

// eachRightIns goes through every Op, every Mode and Reg of its operands, and every N; an X there is srcX or dstX.
func eachRightIns(srcX, dstX int, visit func(x impl.Ins)) {
	withX := func(o impl.Opd, hasX bool, x int) impl.Opd {
		if hasX {
			o.X = x
		}
		return o
	}
	for _, k := range opKinds() {
		for n := k.nLeast; n <= k.nHighest; n++ {
			x := impl.Ins{Op: k.op, N: n}
			switch {
			case k.src:
				eachOpd(func(src impl.Opd, hasSrcX bool) {
					x.Src = withX(src, hasSrcX, srcX)
					eachOpd(func(dst impl.Opd, hasDstX bool) {
						x.Dst = withX(dst, hasDstX, dstX)
						visit(x)
					})
				})
			case k.dst:
				eachOpd(func(dst impl.Opd, hasX bool) {
					x.Dst = withX(dst, hasX, dstX)
					visit(x)
				})
			default:
				visit(x)
			}
		}
	}
}

func checkDecode(t *testing.T, l []int, at int, want impl.Ins, wantN int) {
	t.Helper()
	if x, n, ok := impl.Decode(l, at); !ok || x != want || n != wantN {
		t.Errorf("Decode of %o at %d: %+v %d %v, want %+v %d", l, at, x, n, ok, want, wantN)
	}
}

func checkNoDecode(t *testing.T, l []int, at int) {
	t.Helper()
	if x, n, ok := impl.Decode(l, at); ok || n != 0 || x != (impl.Ins{}) {
		t.Errorf("Decode of %o at %d: %+v %d %v, want nothing", l, at, x, n, ok)
	}
}

func TestEncodeWrittenOut(t *testing.T) {
	opd := func(mode, reg, x int) impl.Opd { return impl.Opd{Mode: mode, Reg: reg, X: x} }
	for _, z := range []struct {
		x impl.Ins
		l []int
	}{
		{impl.Ins{Op: impl.OMov, Src: opd(0, 0, 0), Dst: opd(0, 0, 0)}, []int{4096}},
		{impl.Ins{Op: impl.OMov, Src: opd(7, 7, 1), Dst: opd(7, 7, 2)}, []int{0o017777, 1, 2}},
		{impl.Ins{Op: impl.OCmp, Src: opd(1, 2, 0), Dst: opd(6, 4, 65535)}, []int{0o021264, 65535}},
		{impl.Ins{Op: impl.OBic, Src: opd(2, 7, 0), Dst: opd(2, 6, 0)}, []int{0o042726, 0}},
		{impl.Ins{Op: impl.OBis, Src: opd(3, 7, 3), Dst: opd(3, 7, 4)}, []int{0o053737, 3, 4}},
		{impl.Ins{Op: impl.OAdd, Src: opd(3, 6, 0), Dst: opd(5, 1, 0)}, []int{0o063651}},
		{impl.Ins{Op: impl.OSub, Src: opd(6, 0, 32768), Dst: opd(0, 7, 0)}, []int{0o166007, 32768}},
		{impl.Ins{Op: impl.OClr, Dst: opd(0, 0, 0)}, []int{0o005000}},
		{impl.Ins{Op: impl.OInc, Dst: opd(0, 3, 0)}, []int{0o005203}},
		{impl.Ins{Op: impl.ODec, Dst: opd(7, 0, 6)}, []int{0o005370, 6}},
		{impl.Ins{Op: impl.ONeg, Dst: opd(4, 5, 0)}, []int{0o005445}},
		{impl.Ins{Op: impl.OTst, Dst: opd(2, 7, 7)}, []int{0o005727, 7}},
		{impl.Ins{Op: impl.OAsr, Dst: opd(1, 1, 0)}, []int{0o006211}},
		{impl.Ins{Op: impl.OAsl, Dst: opd(7, 7, 65535)}, []int{0o006377, 65535}},
		{impl.Ins{Op: impl.OJmp, Dst: opd(6, 7, 65534)}, []int{0o000167, 65534}},
		{impl.Ins{Op: impl.OJsr, Dst: opd(7, 7, 9), N: 7}, []int{0o004777, 9}},
		{impl.Ins{Op: impl.OJsr, Dst: opd(1, 0, 0), N: 0}, []int{0o004010}},
		{impl.Ins{Op: impl.ORts, N: 0}, []int{0o000200}},
		{impl.Ins{Op: impl.OBr, N: 0}, []int{0o000400}},
		{impl.Ins{Op: impl.OBne, N: -1}, []int{0o001377}},
		{impl.Ins{Op: impl.OBeq, N: -128}, []int{0o001600}},
		{impl.Ins{Op: impl.OBge, N: 127}, []int{0o002177}},
		{impl.Ins{Op: impl.OBlt, N: -2}, []int{0o002776}},
		{impl.Ins{Op: impl.OHalt}, []int{0}},
		{impl.Ins{Op: impl.OEmt, N: 0}, []int{0o104000}},
		{impl.Ins{Op: impl.OEmt, N: 255}, []int{0o104377}},
	} {
		if l := impl.Encode(z.x); !slices.Equal(l, z.l) {
			t.Errorf("Encode of %+v: %o, want %o", z.x, l, z.l)
		}
		checkDecode(t, z.l, 0, z.x, len(z.l))
	}
}

func TestEveryInstructionComesBackOfItsWords(t *testing.T) {
	for _, w := range [][2]int{{0, 0}, {1, 2}, {65535, 0}, {0o005001, 65535}, {32768, 32767}} {
		eachRightIns(w[0], w[1], func(x impl.Ins) {
			want := wantCodes(x)
			l := impl.Encode(x)
			if !slices.Equal(l, want) {
				t.Fatalf("Encode of %+v: %o, want %o", x, l, want)
			}
			if len(l) != impl.Words(x) {
				t.Fatalf("Encode of %+v has %d words, Words tells %d", x, len(l), impl.Words(x))
			}
			checkDecode(t, l, 0, x, len(l))
			// What stands ahead and behind is another's, and need not be a word.
			among := append([]int{0o012701, -1}, append(slices.Clone(l), 65536, 0o012701)...)
			checkDecode(t, among, 2, x, len(l))
		})
	}
}

func TestEncodeOfWhatIsNotRight(t *testing.T) {
	good := impl.Opd{Mode: 6, Reg: 1, X: 3}
	var wrong []impl.Ins
	for _, op := range noOps {
		wrong = append(wrong, impl.Ins{Op: op}, impl.Ins{Op: op, Dst: good}, impl.Ins{Op: op, N: 1})
	}
	for _, k := range opKinds() {
		x := impl.Ins{Op: k.op}
		for _, n := range []int{k.nLeast - 1, k.nHighest + 1, math.MinInt, math.MaxInt} {
			x.N = n
			wrong = append(wrong, x)
		}
		for _, bad := range []impl.Opd{{Mode: 8}, {Mode: -1}, {Reg: 8}, {Reg: -1}, {X: 1}, {Mode: 2, Reg: 6, X: 1}, {Mode: 6, X: 65536}, {Mode: 3, Reg: 7, X: -1}} {
			wrong = append(wrong, impl.Ins{Op: k.op, Src: bad}, impl.Ins{Op: k.op, Dst: bad}, impl.Ins{Op: k.op, Src: good, Dst: bad})
		}
		if !k.src {
			wrong = append(wrong, impl.Ins{Op: k.op, Src: good}, impl.Ins{Op: k.op, Src: impl.Opd{Reg: 1}})
		}
		if !k.dst {
			wrong = append(wrong, impl.Ins{Op: k.op, Dst: good}, impl.Ins{Op: k.op, Dst: impl.Opd{Reg: 1}})
		}
	}
	for _, x := range wrong {
		if l := impl.Encode(x); len(l) != 0 {
			t.Errorf("Encode of %+v: %o, want nothing", x, l)
		}
	}
}

// firstWordsOf has, for each first word that the document gives, the instruction without its X.
func firstWordsOf(t *testing.T) map[int]impl.Ins {
	t.Helper()
	owner := map[int]impl.Ins{}
	eachRightIns(0, 0, func(x impl.Ins) {
		if y, ok := owner[wantCode(x)]; ok {
			t.Fatalf("%+v and %+v have one first word", x, y)
		}
		owner[wantCode(x)] = x
	})
	return owner
}

func TestDecodeOfEveryFirstWord(t *testing.T) {
	owner := firstWordsOf(t)
	for w := range 65536 {
		l := []int{w, 0o1111, 0o2222}
		want, ok := owner[w]
		if !ok {
			checkNoDecode(t, l, 0)
			continue
		}
		next := 1
		for _, o := range []*impl.Opd{&want.Src, &want.Dst} {
			if wordsOfModes[o.Mode][o.Reg] == '1' {
				o.X = l[next]
				next++
			}
		}
		checkDecode(t, l, 0, want, next)
		if again := impl.Encode(want); !slices.Equal(again, l[:next]) {
			t.Errorf("Encode of what is read of %o: %o", l, again)
		}
	}
}

func TestDecodeOfWhatIsNoFirstWord(t *testing.T) {
	for _, w := range []int{
		1, 2, 0o77, 0o210, 0o240, 0o300, 0o377, 0o003000, 0o003777, 0o005100, 0o005177, 0o005500, 0o005600, 0o006000,
		0o006177, 0o006400, 0o007000, 0o007777, 0o030000, 0o037777, 0o070000, 0o103777, 0o104400, 0o157777, 0o170000, 0o177777,
	} {
		checkNoDecode(t, []int{w, 0, 0}, 0)
	}
	right := []int{0, 0o100, 0o200, 0o400, 0o004000, 0o005000, 0o010000, 0o104000, 0o160000}
	for _, w := range right {
		if _, _, ok := impl.Decode([]int{w, 0, 0}, 0); !ok {
			t.Errorf("Decode of %o is none", w)
		}
		for _, off := range []int{65536, -65536, 2 * 65536, 1 << 32, math.MinInt} {
			checkNoDecode(t, []int{w + off, 0, 0}, 0)
		}
	}
	for _, w := range farNumbers {
		checkNoDecode(t, []int{w, 0, 0}, 0)
	}
}

func TestDecodeWhereWordsLack(t *testing.T) {
	three := []int{0o026772, 9, 8}
	two := []int{0o012701, 5}
	last := []int{0o010127, 6}
	checkDecode(t, three, 0, impl.Ins{Op: impl.OCmp, Src: impl.Opd{Mode: 6, Reg: 7, X: 9}, Dst: impl.Opd{Mode: 7, Reg: 2, X: 8}}, 3)
	checkNoDecode(t, three[:2], 0)
	checkNoDecode(t, three[:1], 0)
	checkNoDecode(t, two[:1], 0)
	checkNoDecode(t, last[:1], 0)
	checkNoDecode(t, append([]int{0, 0}, three[:2]...), 2)
	checkNoDecode(t, append([]int{0, 0}, two[0]), 2)
	checkNoDecode(t, []int{0o004567}, 0)
	checkNoDecode(t, []int{0o005737}, 0)
}

func TestDecodeOfWhatIsNoWord(t *testing.T) {
	for _, far := range farNumbers {
		checkNoDecode(t, []int{0o026772, far, 8}, 0)
		checkNoDecode(t, []int{0o026772, 9, far}, 0)
		checkNoDecode(t, []int{0o026772, far, far}, 0)
		checkNoDecode(t, []int{0o012701, far}, 0)
		checkNoDecode(t, []int{0o010127, far}, 0)
		checkNoDecode(t, []int{0o004567, far}, 0)
		checkNoDecode(t, []int{0o000137, far, 1}, 0)
		// One that has no word behind it reads none.
		checkDecode(t, []int{0o000207, far}, 0, impl.Ins{Op: impl.ORts, N: 7}, 1)
		checkDecode(t, []int{0o012701, 5, far}, 0, impl.Ins{Op: impl.OMov, Src: impl.Opd{Mode: 2, Reg: 7, X: 5}, Dst: impl.Opd{Reg: 1}}, 2)
	}
}

func TestDecodeAtPlaces(t *testing.T) {
	l := []int{0o012701, 5, 0, 0o104002}
	checkDecode(t, l, 2, impl.Ins{Op: impl.OHalt}, 1)
	checkDecode(t, l, 3, impl.Ins{Op: impl.OEmt, N: 2}, 1)
	checkNoDecode(t, l, 1)
	for _, at := range append([]int{4, 5, 100, -4}, farNumbers...) {
		checkNoDecode(t, l, at)
	}
	for _, none := range [][]int{nil, {}} {
		for _, at := range []int{0, 1, -1, math.MaxInt, math.MinInt} {
			checkNoDecode(t, none, at)
		}
	}
}

func TestDecodeReadsNothingBehindTheList(t *testing.T) {
	room := []int{0o026772, 9, 8, 0}
	checkNoDecode(t, room[:2], 0)
	checkNoDecode(t, room[:1], 0)
	checkNoDecode(t, room[:3], 3)
	checkNoDecode(t, room[:0], 0)
	if !slices.Equal(room, []int{0o026772, 9, 8, 0}) {
		t.Errorf("written: %o", room)
	}
}

func TestCodesAreNewMemory(t *testing.T) {
	x := impl.Ins{Op: impl.OAdd, Src: impl.Opd{Mode: 6, Reg: 2, X: 4}, Dst: impl.Opd{Mode: 7, Reg: 3, X: 6}}
	l := impl.Encode(x)
	other := impl.Encode(x)
	for i := range l {
		l[i] = -1
	}
	if want := []int{0o066273, 4, 6}; !slices.Equal(other, want) || !slices.Equal(impl.Encode(x), want) {
		t.Errorf("%o, want %o", other, want)
	}
	room := []int{1, 0o066273, 4, 6, 7}
	if y, n, ok := impl.Decode(room[:4], 1); !ok || n != 3 || y != x {
		t.Error(y, n, ok)
	}
	if !slices.Equal(room, []int{1, 0o066273, 4, 6, 7}) {
		t.Errorf("written: %o", room)
	}
}

// A code's form is a method expression in a table: a method named by its type, with no call behind it.
func TestFormsAreMethodExpressions(t *testing.T) {
	_, files := programFiles(t)
	f := files["l04_code.go"]
	if f == nil {
		t.Fatal("no l04_code.go")
	}
	methods := map[string]bool{}
	for _, d := range f.Decls {
		if x, ok := d.(*ast.FuncDecl); ok && x.Recv != nil {
			if id, ok := x.Recv.List[0].Type.(*ast.Ident); ok {
				methods[id.Name+"."+x.Name.Name] = true
			}
		}
	}
	found := false
	ast.Inspect(f, func(n ast.Node) bool {
		row, ok := n.(*ast.CompositeLit)
		if !ok {
			return true
		}
		for _, e := range row.Elts {
			if s, ok := e.(*ast.SelectorExpr); ok {
				id, ok := s.X.(*ast.Ident)
				found = found || ok && methods[id.Name+"."+s.Sel.Name]
			}
		}
		return true
	})
	if !found {
		t.Error("no method expression in a table")
	}
}
