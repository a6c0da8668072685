package tests

import (
	"fmt"
	"go/ast"
	"slices"
	"testing"

	"loop.example/g00329/impl"
)

var (
	r1 = impl.Opd{Reg: 1}
	r2 = impl.Opd{Reg: 2}

	// edgeWords are the words about which a flag turns, and some between.
	edgeWords = []int{0, 1, 2, 3, 255, 256, 16383, 16384, 16385, 32766, 32767, 32768, 32769, 49151, 49152, 49153, 65533, 65534, 65535}
)

func number(n int) impl.Opd { return impl.Opd{Mode: 2, Reg: 7, X: n} }

func absolute(a int) impl.Opd { return impl.Opd{Mode: 3, Reg: 7, X: a} }

// setFlags goes by Flags' weights.
func setFlags(m *impl.Mach, f int) { m.N, m.Z, m.V, m.C = f&8 != 0, f&4 != 0, f&2 != 0, f&1 != 0 }

// stepMach is startMach with this instruction at 100, where 7 is; the registers lead nowhere.
func stepMach(x impl.Ins) impl.Mach { return insAt(x, 100) }

func insAt(x impl.Ins, a int) impl.Mach {
	m := startMach(nil)
	copy(m.Mem[a/2:], impl.Encode(x))
	m.R[7] = a
	return m
}

// checkStep wants m with what turn does, and nothing else turned. 7 has gone on by 2 when turn comes.
func checkStep(t *testing.T, what string, m impl.Mach, turn func(w *impl.Mach)) {
	t.Helper()
	want := copyOfMach(m)
	want.R[7] = (want.R[7] + 2) % 65536
	turn(&want)
	checkStepIs(t, what, m, want)
}

func checkStepIs(t *testing.T, what string, m, want impl.Mach) {
	t.Helper()
	got := impl.Step(m)
	if sameMach(got, want) {
		if impl.MachOk(m) && !impl.MachOk(got) {
			t.Errorf("%s: not MachOk", what)
		}
		return
	}
	t.Errorf("%s: registers %v, flags %d, Stop %d, In %v, Out %v, want %v, %d, %d, %v, %v",
		what, got.R, impl.Flags(got), got.Stop, got.In, got.Out, want.R, impl.Flags(want), want.Stop, want.In, want.Out)
	for i := range min(len(got.Mem), len(want.Mem)) {
		if got.Mem[i] != want.Mem[i] {
			t.Errorf("%s: at %d: %d, want %d", what, 2*i, got.Mem[i], want.Mem[i])
		}
	}
}

// checkFault wants that nothing but Stop has turned, whichever flags were on.
func checkFault(t *testing.T, what string, m impl.Mach) {
	t.Helper()
	for f := range 16 {
		m := copyOfMach(m)
		setFlags(&m, f)
		want := copyOfMach(m)
		want.Stop = impl.StFault
		checkStepIs(t, what, m, want)
	}
}

func TestStepOfMachinesThatAreNotRight(t *testing.T) {
	for what, m := range wrongMachs() {
		if len(m.Mem) > 50 {
			m.Mem[50] = impl.Encode(impl.Ins{Op: impl.OInc, Dst: r2})[0]
		}
		checkStepIs(t, what, m, copyOfMach(m))
	}
}

func TestStepOfMachinesThatStand(t *testing.T) {
	for _, x := range []impl.Ins{{Op: impl.OInc, Dst: r1}, {Op: impl.OHalt}, {Op: impl.OEmt, N: 3}, {Op: impl.OBr, N: 5}} {
		for _, stop := range []int{impl.StHalt, impl.StFault} {
			m := stepMach(x)
			m.Stop = stop
			checkStepIs(t, fmt.Sprint("Stop ", stop), m, copyOfMach(m))
		}
		m := stepMach(x)
		if sameMach(impl.Step(m), m) {
			t.Error("nothing turned while it runs:", x)
		}
	}
}

func TestStepUpToTheMemorysEnd(t *testing.T) {
	one, two := impl.Ins{Op: impl.OInc, Dst: r1}, impl.Ins{Op: impl.OMov, Src: number(77), Dst: r1}
	three := impl.Ins{Op: impl.OMov, Src: number(78), Dst: absolute(300)}
	for _, a := range []int{0, 2, 508, 510} {
		checkStep(t, fmt.Sprint("one word at ", a), insAt(one, a), func(w *impl.Mach) {
			w.R[1]++
			setFlags(w, impl.Flags(*w)&1)
		})
	}
	for _, a := range []int{0, 2, 506, 508} {
		checkStep(t, fmt.Sprint("two words at ", a), insAt(two, a), func(w *impl.Mach) {
			w.R[1], w.R[7] = 77, a+4
			setFlags(w, 1)
		})
	}
	for _, a := range []int{0, 504, 506} {
		checkStep(t, fmt.Sprint("three words at ", a), insAt(three, a), func(w *impl.Mach) {
			w.Mem[150], w.R[7] = 78, a+6
			setFlags(w, 1)
		})
	}
	checkFault(t, "the second word is behind", insAt(two, 510))
	checkFault(t, "the third word is behind", insAt(three, 508))
	checkFault(t, "two words are behind", insAt(three, 510))
	checkFault(t, "a jump's word is behind", insAt(impl.Ins{Op: impl.OJmp, Dst: absolute(100)}, 510))
	checkFault(t, "a call's word is behind", insAt(impl.Ins{Op: impl.OJsr, N: 5, Dst: absolute(100)}, 510))
}

func TestStepWhere7LeadsToNoWord(t *testing.T) {
	for _, a := range []int{1, 3, 99, 101, 509, 511, 512, 513, 514, 1024, 32768, 65533, 65534, 65535} {
		m := startMach(nil)
		for i := range m.Mem {
			m.Mem[i] = 0
		}
		m.R[7] = a
		checkFault(t, fmt.Sprint("7 is ", a), m)
	}
}

func TestStepOfWordsThatAreNoInstruction(t *testing.T) {
	right := firstWordsOf(t)
	m := startMach(nil)
	for i := range m.R {
		m.R[i] = 100
	}
	none := 0
	for word := 0; word < 65536; word += 5 {
		if _, ok := right[word]; ok {
			continue
		}
		none++
		m.Mem[50] = word
		want := copyOfMach(m)
		want.Stop = impl.StFault
		checkStepIs(t, fmt.Sprintf("%o", word), m, want)
	}
	if none == 0 {
		t.Error("each word is an instruction's")
	}
	for _, word := range []int{1, 2, 0o77, 0o210, 0o240, 0o3000, 0o5100, 0o7000, 0o30000, 0o70000, 0o104400, 0o110000, 0o170000, 0o177777} {
		m.Mem[50] = word
		checkFault(t, fmt.Sprintf("%o", word), m)
	}
}

// A worked is an Op that makes an r of words: flags are N, Z, V, C, and - is one that stays.
type worked struct {
	op, s, d, r int
	flags       string
}

func workedTwo() []worked {
	return []worked{
		{impl.OMov, 0, 5, 0, "010-"}, {impl.OMov, 1, 5, 1, "000-"}, {impl.OMov, 32767, 65535, 32767, "000-"},
		{impl.OMov, 32768, 0, 32768, "100-"}, {impl.OMov, 65535, 1, 65535, "100-"}, {impl.OMov, 0, 0, 0, "010-"},
		{impl.OCmp, 5, 5, 5, "0100"}, {impl.OCmp, 3, 5, 5, "1001"}, {impl.OCmp, 5, 3, 3, "0000"}, {impl.OCmp, 32768, 1, 1, "0010"},
		{impl.OCmp, 1, 32768, 32768, "1011"}, {impl.OCmp, 32767, 65535, 65535, "1011"}, {impl.OCmp, 65535, 32767, 32767, "1000"},
		{impl.OCmp, 0, 0, 0, "0100"}, {impl.OCmp, 0, 1, 1, "1001"}, {impl.OCmp, 0, 65535, 65535, "0001"}, {impl.OCmp, 0, 32768, 32768, "1011"},
		{impl.OCmp, 32768, 32768, 32768, "0100"}, {impl.OCmp, 65535, 0, 0, "1000"}, {impl.OCmp, 65535, 32768, 32768, "0000"},
		{impl.OCmp, 32768, 65535, 65535, "1001"}, {impl.OCmp, 32768, 32767, 32767, "0010"}, {impl.OCmp, 32767, 32768, 32768, "1011"},
		{impl.OBic, 3, 7, 4, "000-"}, {impl.OBic, 65535, 21845, 0, "010-"}, {impl.OBic, 0, 32768, 32768, "100-"},
		{impl.OBic, 32767, 65535, 32768, "100-"}, {impl.OBic, 32768, 65535, 32767, "000-"}, {impl.OBic, 65535, 0, 0, "010-"},
		{impl.OBis, 8, 7, 15, "000-"}, {impl.OBis, 0, 0, 0, "010-"}, {impl.OBis, 32768, 1, 32769, "100-"}, {impl.OBis, 3, 6, 7, "000-"},
		{impl.OBis, 65535, 0, 65535, "100-"}, {impl.OBis, 0, 32767, 32767, "000-"},
		{impl.OAdd, 1, 2, 3, "0000"}, {impl.OAdd, 0, 0, 0, "0100"}, {impl.OAdd, 65535, 1, 0, "0101"}, {impl.OAdd, 1, 65535, 0, "0101"},
		{impl.OAdd, 32767, 1, 32768, "1010"}, {impl.OAdd, 1, 32767, 32768, "1010"}, {impl.OAdd, 32768, 32768, 0, "0111"},
		{impl.OAdd, 65535, 65535, 65534, "1001"}, {impl.OAdd, 65535, 32768, 32767, "0011"}, {impl.OAdd, 32767, 32768, 65535, "1000"},
		{impl.OAdd, 32768, 0, 32768, "1000"}, {impl.OAdd, 65534, 1, 65535, "1000"}, {impl.OAdd, 65535, 2, 1, "0001"},
		{impl.OAdd, 32767, 32767, 65534, "1010"}, {impl.OAdd, 32766, 1, 32767, "0000"},
		{impl.OSub, 3, 5, 2, "0000"}, {impl.OSub, 5, 5, 0, "0100"}, {impl.OSub, 5, 3, 65534, "1001"}, {impl.OSub, 1, 0, 65535, "1001"},
		{impl.OSub, 1, 32768, 32767, "0010"}, {impl.OSub, 32768, 1, 32769, "1011"}, {impl.OSub, 65535, 32767, 32768, "1011"},
		{impl.OSub, 32767, 65535, 32768, "1000"}, {impl.OSub, 65535, 0, 1, "0001"}, {impl.OSub, 32768, 0, 32768, "1011"},
		{impl.OSub, 0, 32768, 32768, "1000"}, {impl.OSub, 32768, 32768, 0, "0100"}, {impl.OSub, 0, 0, 0, "0100"},
	}
}

func workedOne() []worked {
	return []worked{
		{impl.OClr, 0, 0, 0, "0100"}, {impl.OClr, 0, 9, 0, "0100"}, {impl.OClr, 0, 32768, 0, "0100"}, {impl.OClr, 0, 65535, 0, "0100"},
		{impl.OInc, 0, 0, 1, "000-"}, {impl.OInc, 0, 32766, 32767, "000-"}, {impl.OInc, 0, 32767, 32768, "101-"},
		{impl.OInc, 0, 32768, 32769, "100-"}, {impl.OInc, 0, 65534, 65535, "100-"}, {impl.OInc, 0, 65535, 0, "010-"},
		{impl.ODec, 0, 0, 65535, "100-"}, {impl.ODec, 0, 1, 0, "010-"}, {impl.ODec, 0, 2, 1, "000-"}, {impl.ODec, 0, 32767, 32766, "000-"},
		{impl.ODec, 0, 32768, 32767, "001-"}, {impl.ODec, 0, 32769, 32768, "100-"}, {impl.ODec, 0, 65535, 65534, "100-"},
		{impl.ONeg, 0, 0, 0, "0100"}, {impl.ONeg, 0, 1, 65535, "1001"}, {impl.ONeg, 0, 5, 65531, "1001"}, {impl.ONeg, 0, 65535, 1, "0001"},
		{impl.ONeg, 0, 32768, 32768, "1011"}, {impl.ONeg, 0, 32767, 32769, "1001"}, {impl.ONeg, 0, 32769, 32767, "0001"},
		{impl.OTst, 0, 0, 0, "0100"}, {impl.OTst, 0, 1, 1, "0000"}, {impl.OTst, 0, 32767, 32767, "0000"},
		{impl.OTst, 0, 32768, 32768, "1000"}, {impl.OTst, 0, 65535, 65535, "1000"},
		{impl.OAsr, 0, 0, 0, "0100"}, {impl.OAsr, 0, 1, 0, "0111"}, {impl.OAsr, 0, 2, 1, "0000"}, {impl.OAsr, 0, 3, 1, "0011"},
		{impl.OAsr, 0, 32767, 16383, "0011"}, {impl.OAsr, 0, 32768, 49152, "1010"}, {impl.OAsr, 0, 32769, 49152, "1001"},
		{impl.OAsr, 0, 65533, 65534, "1001"}, {impl.OAsr, 0, 65534, 65535, "1010"}, {impl.OAsr, 0, 65535, 65535, "1001"},
		{impl.OAsl, 0, 0, 0, "0100"}, {impl.OAsl, 0, 1, 2, "0000"}, {impl.OAsl, 0, 16383, 32766, "0000"}, {impl.OAsl, 0, 16384, 32768, "1010"},
		{impl.OAsl, 0, 32767, 65534, "1010"}, {impl.OAsl, 0, 32768, 0, "0111"}, {impl.OAsl, 0, 32769, 2, "0011"},
		{impl.OAsl, 0, 49152, 32768, "1001"}, {impl.OAsl, 0, 65535, 65534, "1001"},
	}
}

// flagsOf are those that the text names, and of the others those that were on.
func flagsOf(text string, was int) int {
	f := 0
	for i, weight := range []int{8, 4, 2, 1} {
		if text[i] == '1' || text[i] == '-' && was&weight != 0 {
			f += weight
		}
	}
	return f
}

// checkWorked has s and d in registers, then in the memory, then s behind the instruction and d where a word of it leads; whichever flags were on.
func checkWorked(t *testing.T, z worked) {
	t.Helper()
	hasSrc := z.op <= impl.OSub
	for was := range 16 {
		for way, dst := range []impl.Opd{r2, {Mode: 1, Reg: 2}, absolute(300)} {
			x := impl.Ins{Op: z.op, Dst: dst}
			if hasSrc {
				x.Src = []impl.Opd{r1, {Mode: 1, Reg: 1}, number(z.s)}[way]
			}
			m := stepMach(x)
			setFlags(&m, was)
			m.R[1], m.R[2], m.Mem[100], m.Mem[150] = 200, 300, z.s, z.d
			if way == 0 {
				m.R[1], m.R[2] = z.s, z.d
			}
			checkStep(t, fmt.Sprintf("%+v, flags %d, way %d", z, was, way), m, func(w *impl.Mach) {
				setFlags(w, flagsOf(z.flags, was))
				w.R[7] = 100 + 2*impl.Words(x)
				if way == 0 {
					w.R[2] = z.r
				} else {
					w.Mem[150] = z.r
				}
			})
		}
	}
}

func TestStepOfOpsWithTwoOperands(t *testing.T) {
	for _, z := range workedTwo() {
		checkWorked(t, z)
	}
}

func TestStepOfOpsWithOneOperand(t *testing.T) {
	for _, z := range workedOne() {
		checkWorked(t, z)
	}
}

func asSigned(n int) int {
	if n > 32767 {
		return n - 65536
	}
	return n
}

func flagText(r int, v, c string) string {
	text := []byte("00" + v + c)
	if r > 32767 {
		text[0] = '1'
	}
	if r == 0 {
		text[1] = '1'
	}
	return string(text)
}

func oneIf(on bool) string {
	if on {
		return "1"
	}
	return "0"
}

// outside tells whether a number with a sign has no word.
func outside(n int) string { return oneIf(n < -32768 || n > 32767) }

// wantWorked goes by numbers with signs: V is on where what comes of them has no word.
func wantWorked(op, s, d int) worked {
	r, v, c := 0, "0", "-"
	switch op {
	case impl.OMov:
		r = s
	case impl.OCmp:
		r, v, c = s-d, outside(asSigned(s)-asSigned(d)), oneIf(s < d)
	case impl.OBic:
		r = d - d&s
	case impl.OBis:
		r = d + s - d&s
	case impl.OAdd:
		r, v, c = s+d, outside(asSigned(s)+asSigned(d)), oneIf(s+d > 65535)
	case impl.OSub:
		r, v, c = d-s, outside(asSigned(d)-asSigned(s)), oneIf(d < s)
	case impl.OClr:
		c = "0"
	case impl.OInc:
		r, v = d+1, outside(asSigned(d)+1)
	case impl.ODec:
		r, v = d-1, outside(asSigned(d)-1)
	case impl.ONeg:
		r, v, c = -d, outside(-asSigned(d)), oneIf(d != 0)
	case impl.OTst:
		r, c = d, "0"
	case impl.OAsr:
		r, c = (asSigned(d)+65536)/2-32768, oneIf(d%2 == 1)
		v = oneIf((d > 32767) != (d%2 == 1))
	case impl.OAsl:
		r, v, c = 2*d, outside(2*asSigned(d)), oneIf(d > 32767)
	}
	r = ((r % 65536) + 65536) % 65536
	z := worked{op: op, s: s, d: d, r: r, flags: flagText(r, v, c)}
	if op == impl.OCmp || op == impl.OTst {
		z.r = d
	}
	return z
}

// checkWorkedShortly has both in registers, and all flags off, then on.
func checkWorkedShortly(t *testing.T, m impl.Mach, z worked) {
	t.Helper()
	m.R[1], m.R[2] = z.s, z.d
	for _, was := range []int{0, 15} {
		setFlags(&m, was)
		got := impl.Step(m)
		if got.R[2] != z.r || impl.Flags(got) != flagsOf(z.flags, was) || got.R[1] != z.s || got.R[7] != 102 || got.Stop != impl.StRun {
			t.Fatalf("%+v, flags %d: r %d, flags %d", z, was, got.R[2], impl.Flags(got))
		}
	}
}

func TestStepOfEdgesWithEdges(t *testing.T) {
	for op := impl.OMov; op <= impl.OSub; op++ {
		m := stepMach(impl.Ins{Op: op, Src: r1, Dst: r2})
		for _, s := range edgeWords {
			for _, d := range edgeWords {
				checkWorkedShortly(t, m, wantWorked(op, s, d))
			}
		}
	}
	for _, z := range append(workedTwo(), workedOne()...) {
		if want := wantWorked(z.op, z.s, z.d); want != z {
			t.Errorf("%+v, but by numbers with signs %+v", z, want)
		}
	}
}

func TestStepOfManyWords(t *testing.T) {
	for op := impl.OClr; op <= impl.OAsl; op++ {
		m := stepMach(impl.Ins{Op: op, Dst: r2})
		for d := 0; d < 65536; d += 23 {
			checkWorkedShortly(t, m, wantWorked(op, 12345, d))
		}
		for _, d := range edgeWords {
			checkWorkedShortly(t, m, wantWorked(op, 12345, d))
		}
	}
}

// OMov and OClr hang on nothing that was there.
func TestStepThatHangsOnNothingThatWasThere(t *testing.T) {
	for _, d := range edgeWords {
		checkWorked(t, worked{impl.OMov, 32768, d, 32768, "100-"})
		checkWorked(t, worked{impl.OClr, 0, d, 0, "0100"})
	}
}

// moved is the flags' turn of an OMov, whose C stays.
func moved(w *impl.Mach, s int) { w.N, w.Z, w.V = s > 32767, s == 0, false }

// checkMov has the register 1 at 200, and these words.
func checkMov(t *testing.T, src, dst impl.Opd, words map[int]int, turn func(w *impl.Mach) int) {
	t.Helper()
	m := stepMach(impl.Ins{Op: impl.OMov, Src: src, Dst: dst})
	m.R[1] = 200
	for a, n := range words {
		m.Mem[a/2] = n
	}
	checkStep(t, fmt.Sprint("from ", src, " to ", dst), m, func(w *impl.Mach) { moved(w, turn(w)) })
}

func TestStepLoadsSrcAheadOfDstsPlace(t *testing.T) {
	words := map[int]int{198: 300, 200: 302, 202: 304, 300: 11, 302: 12, 304: 13}
	one := func(mode int) impl.Opd { return impl.Opd{Mode: mode, Reg: 1} }
	for _, z := range []struct{ src, dst, s, at, reg int }{
		{0, 1, 200, 200, 200}, {0, 2, 200, 200, 202}, {0, 3, 200, 302, 202}, {0, 4, 200, 198, 198}, {0, 5, 200, 300, 198},
		{1, 2, 302, 200, 202}, {2, 1, 302, 202, 202}, {2, 2, 302, 202, 204}, {2, 3, 302, 304, 204}, {2, 4, 302, 200, 200}, {2, 5, 302, 302, 200},
		{3, 2, 12, 202, 204}, {3, 4, 12, 200, 200}, {4, 1, 300, 198, 198}, {4, 2, 300, 198, 200}, {4, 3, 300, 300, 200}, {4, 4, 300, 196, 196},
		{5, 2, 11, 198, 200}, {5, 3, 11, 300, 200},
	} {
		checkMov(t, one(z.src), one(z.dst), words, func(w *impl.Mach) int {
			w.R[1], w.Mem[z.at/2] = z.reg, z.s
			return z.s
		})
	}
	for _, z := range []struct{ src, s int }{{0, 200}, {1, 302}, {2, 302}, {3, 12}, {4, 300}, {5, 11}} {
		checkMov(t, one(z.src), one(0), words, func(w *impl.Mach) int {
			w.R[1] = z.s
			return z.s
		})
	}
}

// What is loaded of a register that its own place has turned is what it has then.
func TestStepOfOneRegisterTwice(t *testing.T) {
	for _, z := range []struct{ src, sum, reg int }{{0, 400, 200}, {2, 502, 202}, {4, 398, 198}} {
		m := stepMach(impl.Ins{Op: impl.OAdd, Src: impl.Opd{Mode: z.src, Reg: 1}, Dst: r1})
		m.R[1], m.Mem[99], m.Mem[100] = 200, 200, 300
		checkStep(t, fmt.Sprint("added to itself by ", z.src), m, func(w *impl.Mach) {
			w.R[1] = z.sum
			setFlags(w, 0)
		})
	}
	m := stepMach(impl.Ins{Op: impl.OCmp, Src: impl.Opd{Mode: 2, Reg: 1}, Dst: impl.Opd{Mode: 2, Reg: 1}})
	m.R[1], m.Mem[100], m.Mem[101] = 200, 3, 5
	checkStep(t, "two words in a row", m, func(w *impl.Mach) {
		w.R[1] = 204
		setFlags(w, 9)
	})
	m = stepMach(impl.Ins{Op: impl.OSub, Src: impl.Opd{Mode: 4, Reg: 1}, Dst: impl.Opd{Mode: 6, Reg: 1, X: 4}})
	m.R[1], m.Mem[99], m.Mem[101] = 200, 3, 5
	checkStep(t, "2 less, then with X", m, func(w *impl.Mach) {
		w.R[1], w.R[7], w.Mem[101] = 198, 104, 2
		setFlags(w, 0)
	})
}

func TestStepOfRegister7AsSrc(t *testing.T) {
	own := func(mode int) int {
		return impl.Encode(impl.Ins{Op: impl.OMov, Src: impl.Opd{Mode: mode, Reg: 7}, Dst: r1})[0]
	}
	for _, z := range []struct{ mode, x, s, next int }{
		{0, 0, 102, 102}, {1, 0, 20103, 102}, {2, 77, 77, 104}, {3, 300, 9, 104}, {4, 0, own(4), 100}, {6, 196, 9, 104}, {7, 198, 8, 104},
		{6, 65532, own(6), 104},
	} {
		src := impl.Opd{Mode: z.mode, Reg: 7, X: z.x}
		checkMov(t, src, r1, map[int]int{300: 9, 302: 304, 304: 8}, func(w *impl.Mach) int {
			w.R[1], w.R[7] = z.s, z.next
			return z.s
		})
	}
	m := stepMach(impl.Ins{Op: impl.OMov, Src: impl.Opd{Mode: 5, Reg: 7}, Dst: r1})
	checkFault(t, "the instruction's own word leads nowhere", m)
}

func TestStepOfRegister7AsDst(t *testing.T) {
	for _, z := range []struct{ mode, x, at, next int }{
		{1, 0, 102, 102}, {2, 77, 102, 104}, {3, 300, 300, 104}, {4, 0, 100, 100}, {6, 196, 300, 104}, {7, 198, 304, 104}, {3, 100, 100, 104}, {3, 102, 102, 104},
	} {
		dst := impl.Opd{Mode: z.mode, Reg: 7, X: z.x}
		checkMov(t, r1, dst, map[int]int{300: 9, 302: 304}, func(w *impl.Mach) int {
			w.R[7], w.Mem[z.at/2] = z.next, 200
			return 200
		})
	}
	checkMov(t, r1, impl.Opd{Reg: 7}, nil, func(w *impl.Mach) int {
		w.R[7] = 200
		return 200
	})
	checkFault(t, "the instruction's own word leads nowhere", stepMach(impl.Ins{Op: impl.OClr, Dst: impl.Opd{Mode: 5, Reg: 7}}))
	for _, z := range []struct {
		op, next, flags int
	}{{impl.OClr, 0, 4}, {impl.OInc, 103, 0}, {impl.ODec, 101, 0}, {impl.ONeg, 65434, 9}, {impl.OTst, 102, 0}, {impl.OAsr, 51, 0}, {impl.OAsl, 204, 0}} {
		m := stepMach(impl.Ins{Op: z.op, Dst: impl.Opd{Reg: 7}})
		setFlags(&m, 0)
		checkStep(t, fmt.Sprint("7 itself, Op ", z.op), m, func(w *impl.Mach) {
			w.R[7] = z.next
			setFlags(w, z.flags)
		})
	}
}

func TestStepOfRegister7AsBoth(t *testing.T) {
	pc := func(mode, x int) impl.Opd { return impl.Opd{Mode: mode, Reg: 7, X: x} }
	add := func(src, dst impl.Opd, turn func(w *impl.Mach)) {
		t.Helper()
		m := stepMach(impl.Ins{Op: impl.OAdd, Src: src, Dst: dst})
		m.Mem[150] = 1000
		checkStep(t, fmt.Sprint("added, from ", src, " to ", dst), m, func(w *impl.Mach) {
			setFlags(w, 0)
			turn(w)
		})
	}
	add(pc(0, 0), pc(0, 0), func(w *impl.Mach) { w.R[7] = 204 })
	add(pc(2, 7), pc(0, 0), func(w *impl.Mach) { w.R[7] = 111 })
	add(pc(0, 0), absolute(300), func(w *impl.Mach) { w.R[7], w.Mem[150] = 104, 1102 })
	add(pc(2, 7), absolute(300), func(w *impl.Mach) { w.R[7], w.Mem[150] = 106, 1007 })
	add(pc(2, 7), pc(6, 194), func(w *impl.Mach) { w.R[7], w.Mem[150] = 106, 1007 })
	add(pc(6, 196), pc(6, 194), func(w *impl.Mach) { w.R[7], w.Mem[150] = 106, 2000 })
	add(pc(2, 7), pc(2, 8), func(w *impl.Mach) { w.R[7], w.Mem[52] = 106, 15 })
}

// Dst's X is what stands at 7's address, which Src has turned: here the instruction's first word.
func TestStepWhereSrcTurns7(t *testing.T) {
	x := impl.Ins{Op: impl.OMov, Src: impl.Opd{Mode: 4, Reg: 7}, Dst: impl.Opd{Mode: 6, Reg: 1, X: 4}}
	m := stepMach(x)
	code := m.Mem[50]
	m.R[1] = (300 - code + 65536) % 65536
	checkStep(t, "2 less, then X", m, func(w *impl.Mach) {
		w.R[7], w.Mem[150] = 102, code
		moved(w, code)
	})
}

func TestStepWhereAnOperandIsNotThere(t *testing.T) {
	for _, a := range []int{1, 201, 509, 511, 512, 513, 514, 32768, 65534, 65535} {
		for op := impl.OMov; op <= impl.OAsl; op++ {
			for mode := 1; mode < 8; mode++ {
				bad := impl.Opd{Mode: mode, Reg: 1}
				at := (a + []int{0, 0, 0, 0, 2, 2, 0, 0}[mode]) % 65536
				check := func(what string, x impl.Ins) {
					t.Helper()
					m := stepMach(x)
					m.R[1], m.R[2], m.Mem[150] = at, 300, 302
					checkFault(t, fmt.Sprint(what, " ", a, ": ", x), m)
				}
				if op <= impl.OSub {
					check("Src at", impl.Ins{Op: op, Src: bad, Dst: impl.Opd{Mode: 2, Reg: 2}})
					check("Dst at", impl.Ins{Op: op, Src: impl.Opd{Mode: 2, Reg: 2}, Dst: bad})
				} else {
					check("Dst at", impl.Ins{Op: op, Dst: bad})
				}
			}
		}
	}
}

// The word that is to be read on the way is there, but what it leads to is not.
func TestStepWhereAnOperandLeadsNowhere(t *testing.T) {
	for _, a := range []int{1, 511, 512, 65535} {
		for _, o := range []impl.Opd{{Mode: 3, Reg: 1}, {Mode: 5, Reg: 2}, {Mode: 7, Reg: 1}, absolute(a), {Mode: 7, Reg: 7, X: 96}} {
			for _, x := range []impl.Ins{
				{Op: impl.OMov, Src: o, Dst: impl.Opd{Reg: 3}}, {Op: impl.OMov, Src: number(5), Dst: o}, {Op: impl.OTst, Dst: o}, {Op: impl.OCmp, Src: o, Dst: o},
				{Op: impl.OInc, Dst: o}, {Op: impl.OAdd, Src: impl.Opd{Reg: 7}, Dst: o},
			} {
				m := stepMach(x)
				m.R[1], m.R[2], m.Mem[100], m.Mem[101] = 200, 202, a, a
				checkFault(t, fmt.Sprint(x, " to ", a), m)
			}
		}
	}
}

func TestStepOfJumps(t *testing.T) {
	for _, z := range []struct {
		o            impl.Opd
		at, reg, two int
	}{
		{impl.Opd{Mode: 1, Reg: 1}, 200, 200, 0}, {impl.Opd{Mode: 2, Reg: 1}, 200, 202, 0}, {impl.Opd{Mode: 3, Reg: 1}, 300, 202, 0},
		{impl.Opd{Mode: 4, Reg: 1}, 198, 198, 0}, {impl.Opd{Mode: 5, Reg: 1}, 44, 198, 0}, {impl.Opd{Mode: 6, Reg: 1, X: 20}, 220, 200, 2},
		{impl.Opd{Mode: 7, Reg: 1, X: 20}, 66, 200, 2}, {impl.Opd{Mode: 1, Reg: 7}, 102, 200, 0}, {impl.Opd{Mode: 2, Reg: 7, X: 9}, 102, 200, 2},
		{absolute(400), 400, 200, 2}, {impl.Opd{Mode: 4, Reg: 7}, 100, 200, -2}, {impl.Opd{Mode: 6, Reg: 7, X: 20}, 124, 200, 2}, {impl.Opd{Mode: 7, Reg: 7, X: 96}, 300, 200, 2},
		{absolute(401), 401, 200, 2}, {absolute(512), 512, 200, 2}, {absolute(65535), 65535, 200, 2}, {impl.Opd{Mode: 6, Reg: 1, X: 65500}, 164, 200, 2},
	} {
		for f := range 16 {
			put := func(x impl.Ins) impl.Mach {
				m := stepMach(x)
				setFlags(&m, f)
				m.R[1], m.R[6], m.Mem[100], m.Mem[99], m.Mem[110] = 200, 500, 300, 44, 66
				return m
			}
			checkStep(t, fmt.Sprint("jump by ", z.o), put(impl.Ins{Op: impl.OJmp, Dst: z.o}), func(w *impl.Mach) { w.R[1], w.R[7] = z.reg, z.at })
			m := put(impl.Ins{Op: impl.OJsr, N: 5, Dst: z.o})
			checkStep(t, fmt.Sprint("call by ", z.o), m, func(w *impl.Mach) {
				w.R[1], w.R[6], w.Mem[249], w.R[5], w.R[7] = z.reg, 498, w.R[5], 102+z.two, z.at
			})
		}
	}
	checkStep(t, "jump by the instruction's own word", stepMach(impl.Ins{Op: impl.OJmp, Dst: impl.Opd{Mode: 5, Reg: 7}}), func(w *impl.Mach) { w.R[7] = 0o157 })
}

func TestStepOfJumpsThatAreFaults(t *testing.T) {
	for n := range 8 {
		for r := range 8 {
			for _, x := range []impl.Ins{{Op: impl.OJmp, Dst: impl.Opd{Reg: r}}, {Op: impl.OJsr, N: n, Dst: impl.Opd{Reg: r}}} {
				m := stepMach(x)
				m.R[6] = 500
				m.R[r] = 100
				checkFault(t, fmt.Sprint("a register: ", x), m)
			}
		}
		for _, o := range []impl.Opd{{Mode: 3, Reg: 1}, {Mode: 5, Reg: 1}, {Mode: 7, Reg: 1, X: 5}, {Mode: 7, Reg: 7, X: 511}} {
			for _, x := range []impl.Ins{{Op: impl.OJmp, Dst: o}, {Op: impl.OJsr, N: n, Dst: o}} {
				m := stepMach(x)
				m.R[1], m.R[6] = 600, 500
				checkFault(t, fmt.Sprint("no place: ", x), m)
			}
		}
		for _, a := range []int{0, 1, 3, 201, 511, 513, 514, 515, 516, 32768, 65534, 65535} {
			m := stepMach(impl.Ins{Op: impl.OJsr, N: n, Dst: impl.Opd{Mode: 2, Reg: 1}})
			m.R[1], m.R[6] = 200, a
			checkFault(t, fmt.Sprint("no stack at ", a), m)
		}
	}
}

func TestStepOfCallsByEachRegister(t *testing.T) {
	x := impl.Ins{Op: impl.OJsr, Dst: absolute(400)}
	for _, a := range []int{2, 4, 200, 510, 512} {
		for x.N = range 8 {
			m := stepMach(x)
			m.R[6] = a
			checkStep(t, fmt.Sprint("call by ", x.N, ", 6 is ", a), m, func(w *impl.Mach) {
				stored := m.R[x.N]
				switch x.N {
				case 6:
					stored = a - 2
				case 7:
					stored = 104
				}
				w.R[6], w.Mem[(a-2)/2] = a-2, stored
				w.R[x.N] = 104
				w.R[7] = 400
			})
		}
	}
}

// The place is found ahead of all that a call does: its operand may be the stack, or the register N.
func TestStepOfCallsWhosePlaceTurns(t *testing.T) {
	for _, z := range []struct {
		n    int
		o    impl.Opd
		at   int
		mem  map[int]int
		regs map[int]int
	}{
		{5, impl.Opd{Mode: 1, Reg: 6}, 300, map[int]int{298: 10011}, map[int]int{5: 102, 6: 298}},
		{5, impl.Opd{Mode: 2, Reg: 6}, 300, map[int]int{300: 10011}, map[int]int{5: 102, 6: 300}},
		{5, impl.Opd{Mode: 3, Reg: 6}, 44, map[int]int{300: 10011}, map[int]int{5: 102, 6: 300}},
		{5, impl.Opd{Mode: 4, Reg: 6}, 298, map[int]int{296: 10011}, map[int]int{5: 102, 6: 296}},
		{7, impl.Opd{Mode: 3, Reg: 6}, 44, map[int]int{300: 102}, map[int]int{6: 300}},
		{6, impl.Opd{Mode: 3, Reg: 6}, 44, map[int]int{300: 300}, map[int]int{6: 102}},
		{1, impl.Opd{Mode: 2, Reg: 1}, 200, map[int]int{298: 202}, map[int]int{1: 102, 6: 298}},
		{1, impl.Opd{Mode: 6, Reg: 1, X: 6}, 206, map[int]int{298: 200}, map[int]int{1: 104, 6: 298}},
		{1, impl.Opd{Mode: 7, Reg: 6, X: 65534}, 46, map[int]int{298: 200}, map[int]int{1: 104, 6: 298}},
	} {
		m := stepMach(impl.Ins{Op: impl.OJsr, N: z.n, Dst: z.o})
		m.R[1], m.R[6], m.Mem[150], m.Mem[149] = 200, 300, 44, 46
		checkStep(t, fmt.Sprint("call by ", z.n, " and ", z.o), m, func(w *impl.Mach) {
			for r, n := range z.regs {
				w.R[r] = n
			}
			for a, n := range z.mem {
				w.Mem[a/2] = n
			}
			w.R[7] = z.at
		})
	}
}

func TestStepOfComingBack(t *testing.T) {
	x := impl.Ins{Op: impl.ORts}
	for _, word := range []int{0, 77, 511, 65535} {
		for _, a := range []int{0, 2, 200, 510} {
			for x.N = range 8 {
				m := stepMach(x)
				m.R[6], m.Mem[a/2] = a, word
				checkStep(t, fmt.Sprint("back by ", x.N, ", 6 is ", a), m, func(w *impl.Mach) {
					if x.N != 7 {
						w.R[7] = m.R[x.N]
					}
					w.R[6] = a + 2
					w.R[x.N] = word
				})
			}
		}
	}
	for _, a := range []int{1, 201, 511, 512, 513, 514, 32768, 65534, 65535} {
		for x.N = range 8 {
			m := stepMach(x)
			m.R[6] = a
			checkFault(t, fmt.Sprint("back by ", x.N, ", no stack at ", a), m)
		}
	}
}

func TestStepOfACallAndBack(t *testing.T) {
	for _, n := range []int{0, 1, 2, 3, 4, 5, 7} {
		m := stepMach(impl.Ins{Op: impl.OJsr, N: n, Dst: absolute(400)})
		m.R[6], m.Mem[200] = 512, impl.Encode(impl.Ins{Op: impl.ORts, N: n})[0]
		want := copyOfMach(m)
		want.R[7], want.Mem[255] = 104, m.R[n]
		if n == 7 {
			want.Mem[255] = 104
		}
		if got := impl.Step(impl.Step(m)); !sameMach(got, want) {
			t.Errorf("there and back by %d: registers %v, want %v", n, got.R, want.R)
		}
	}
}

func branchGoes(op, flags int) bool {
	n, z, v := flags&8 != 0, flags&4 != 0, flags&2 != 0
	switch op {
	case impl.OBne:
		return !z
	case impl.OBeq:
		return z
	case impl.OBge:
		return n && v || !n && !v
	case impl.OBlt:
		return n && !v || !n && v
	}
	return true
}

func TestStepOfBranches(t *testing.T) {
	for op := impl.OBr; op <= impl.OBlt; op++ {
		for f := range 16 {
			for _, z := range []struct{ n, at, next int }{
				{-128, 256, 2}, {-128, 100, 65382}, {-128, 0, 65282}, {-128, 510, 256}, {-5, 64, 56}, {-1, 100, 100}, {-1, 0, 0}, {-1, 510, 510}, {0, 100, 102},
				{0, 510, 512}, {1, 100, 104}, {5, 64, 76}, {127, 0, 256}, {127, 254, 510}, {127, 256, 512}, {127, 510, 766}, {-2, 0, 65534}, {-51, 100, 0}, {-52, 100, 65534},
			} {
				m := insAt(impl.Ins{Op: op, N: z.n}, z.at)
				setFlags(&m, f)
				checkStep(t, fmt.Sprintf("branch %d of %d at %d, flags %d", op, z.n, z.at, f), m, func(w *impl.Mach) {
					if branchGoes(op, f) {
						w.R[7] = z.next
					}
				})
			}
		}
	}
}

func TestStepOfHalt(t *testing.T) {
	for _, a := range []int{0, 100, 510} {
		for f := range 16 {
			m := insAt(impl.Ins{Op: impl.OHalt}, a)
			setFlags(&m, f)
			checkStep(t, fmt.Sprint("halt at ", a), m, func(w *impl.Mach) { w.Stop = impl.StHalt })
			x := impl.Step(m)
			checkStepIs(t, "once more", x, copyOfMach(x))
		}
	}
}

func TestStepOfWhatGoesOut(t *testing.T) {
	for _, out := range []int{0, 1, 2, 48, 49} {
		for _, n := range []int{0, 5, 32768, 65535} {
			for f := range 16 {
				m := stepMach(impl.Ins{Op: impl.OEmt, N: 1})
				setFlags(&m, f)
				m.Out, m.R[0] = someWords(out), n
				checkStep(t, fmt.Sprint("out behind ", out), m, func(w *impl.Mach) { w.Out = append(w.Out, n) })
			}
		}
	}
	m := stepMach(impl.Ins{Op: impl.OEmt, N: 1})
	m.Out = someWords(50)
	checkFault(t, "50 are out", m)
}

func TestStepOfWhatComesIn(t *testing.T) {
	for f := range 16 {
		for _, n := range []int{1, 2, 49, 50} {
			m := stepMach(impl.Ins{Op: impl.OEmt, N: 2})
			setFlags(&m, f)
			m.In = someWords(n)
			m.In[0] = 65535 - n
			checkStep(t, fmt.Sprint("in of ", n), m, func(w *impl.Mach) { w.R[0], w.In, w.C = 65535-n, w.In[1:], false })
		}
		for _, first := range []int{0, 32768, 65535} {
			m := stepMach(impl.Ins{Op: impl.OEmt, N: 2})
			setFlags(&m, f)
			m.In, m.Out = []int{first}, someWords(50)
			checkStep(t, fmt.Sprint("in ", first), m, func(w *impl.Mach) { w.R[0], w.In, w.C = first, nil, false })
		}
		m := stepMach(impl.Ins{Op: impl.OEmt, N: 2})
		setFlags(&m, f)
		m.In = nil
		checkStep(t, "none is to come", m, func(w *impl.Mach) { w.R[0], w.C = 65535, true })
	}
	for n := range 256 {
		if n != 1 && n != 2 {
			checkFault(t, fmt.Sprint("emt of ", n), stepMach(impl.Ins{Op: impl.OEmt, N: n}))
		}
	}
}

func TestStepsThatTakeAllThatComes(t *testing.T) {
	m := impl.MachNew(impl.Encode(impl.Ins{Op: impl.OEmt, N: 2}), 0, 0, []int{7, 8})
	copy(m.Mem[1:], []int{m.Mem[0], m.Mem[0]})
	var came []int
	for range 3 {
		m = impl.Step(m)
		came = append(came, m.R[0])
	}
	if !slices.Equal(came, []int{7, 8, 65535}) || !m.C || len(m.In) != 0 {
		t.Error(came, m.In)
	}
}

// wantStep goes by the document's words over the functions of the chapters ahead; false is a Fault.
func wantStep(m impl.Mach) (impl.Mach, bool) {
	m = copyOfMach(m)
	if m.R[7]%2 != 0 || m.R[7] > 510 {
		return m, false
	}
	x, _, ok := impl.Decode(m.Mem, m.R[7]/2)
	if !ok {
		return m, false
	}
	m.R[7] += 2
	if x.Op <= impl.OAsl {
		return wantWork(m, x)
	}
	if x.Op == impl.OJmp || x.Op == impl.OJsr {
		return wantJump(m, x)
	}
	switch x.Op {
	case impl.ORts:
		m.R[7] = m.R[x.N]
		word, ok := impl.ReadW(m, m.R[6])
		m.R[6] = (m.R[6] + 2) % 65536
		m.R[x.N] = word
		return m, ok
	case impl.OHalt:
		m.Stop = impl.StHalt
		return m, true
	case impl.OEmt:
		return wantEmt(m, x.N)
	}
	if branchGoes(x.Op, impl.Flags(m)) {
		m.R[7] = (m.R[7] + 2*x.N + 65536) % 65536
	}
	return m, true
}

func wantWork(m impl.Mach, x impl.Ins) (impl.Mach, bool) {
	s, ok := 0, true
	var p impl.Place
	if x.Op <= impl.OSub {
		if m, p, ok = impl.PlaceOf(m, x.Src); !ok {
			return m, false
		}
		if s, ok = impl.Load(m, p); !ok {
			return m, false
		}
	}
	if m, p, ok = impl.PlaceOf(m, x.Dst); !ok {
		return m, false
	}
	d, ok := impl.Load(m, p)
	if !ok {
		return m, false
	}
	z := wantWorked(x.Op, s, d)
	setFlags(&m, flagsOf(z.flags, impl.Flags(m)))
	return impl.Store(m, p, z.r)
}

func wantJump(m impl.Mach, x impl.Ins) (impl.Mach, bool) {
	m, p, ok := impl.PlaceOf(m, x.Dst)
	if !ok || p.At == -1 {
		return m, false
	}
	if x.Op == impl.OJsr {
		m.R[6] = (m.R[6] + 65534) % 65536
		if m, ok = impl.WriteW(m, m.R[6], m.R[x.N]); !ok {
			return m, false
		}
		m.R[x.N] = m.R[7]
	}
	m.R[7] = p.At
	return m, true
}

func wantEmt(m impl.Mach, n int) (impl.Mach, bool) {
	switch {
	case n == 1 && len(m.Out) < 50:
		m.Out = append(m.Out, m.R[0])
		return m, true
	case n == 2 && len(m.In) == 0:
		m.R[0], m.C = 65535, true
		return m, true
	case n == 2:
		m.R[0], m.In, m.C = m.In[0], m.In[1:], false
		return m, true
	}
	return m, false
}

// anyIns has an operand or number of each kind as often as another.
func anyIns(op int, next func(n int) int) impl.Ins {
	opd := func() impl.Opd {
		o := impl.Opd{Mode: next(8), Reg: next(8)}
		if impl.HasX(o) {
			o.X = next(256) * 2
		}
		return o
	}
	x := impl.Ins{Op: op}
	switch {
	case op <= impl.OSub:
		x.Src, x.Dst = opd(), opd()
	case op <= impl.OJmp:
		x.Dst = opd()
	case op == impl.OJsr:
		x.Dst, x.N = opd(), next(8)
	case op == impl.ORts:
		x.N = next(8)
	case op <= impl.OBlt:
		x.N = next(256) - 128
	case op == impl.OEmt:
		x.N = next(4)
	}
	return x
}

func TestStepOfManyMachines(t *testing.T) {
	seed := uint32(1)
	next := func(n int) int {
		seed = seed*1664525 + 1013904223
		return int(seed>>8) % n
	}
	var went, faults [24]int
	for round := range 500 * 23 {
		op := 1 + round%23
		m := insAt(anyIns(op, next), next(250)*2)
		for i := range 7 {
			m.R[i] = next(258) * 2
		}
		for i := range m.Mem {
			if m.Mem[i] > 20000 && m.Mem[i]%2 == 1 && i != m.R[7]/2 {
				m.Mem[i] = next(260) * 2
			}
		}
		setFlags(&m, next(16))
		m.In, m.Out = someWords(next(2)), someWords(49+next(2))
		want, ok := wantStep(m)
		if ok {
			went[op]++
		} else {
			faults[op]++
			want = copyOfMach(m)
			want.Stop = impl.StFault
		}
		checkStepIs(t, fmt.Sprintf("round %d, Op %d", round, op), m, want)
	}
	for op := 1; op <= 23; op++ {
		if went[op] < 100 || op <= impl.OJsr && faults[op] == 0 {
			t.Error("of one kind alone:", op, went[op], faults[op])
		}
	}
}

func TestFlags(t *testing.T) {
	for f := range 16 {
		for _, m := range []impl.Mach{fullMach(), startMach(nil), {}, {Stop: 9, R: []int{-1}}} {
			setFlags(&m, f)
			was := copyOfMach(m)
			if got := impl.Flags(m); got != f || !sameMach(m, was) {
				t.Errorf("Flags of N %v, Z %v, V %v, C %v: %d", m.N, m.Z, m.V, m.C, got)
			}
		}
	}
	if impl.Flags(impl.Mach{N: true}) != 8 || impl.Flags(impl.Mach{Z: true}) != 4 || impl.Flags(impl.Mach{V: true}) != 2 || impl.Flags(impl.Mach{C: true}) != 1 {
		t.Error("a flag alone")
	}
}

func TestStepIsNewMemory(t *testing.T) {
	for _, x := range []impl.Ins{
		{Op: impl.OMov, Src: r1, Dst: absolute(300)}, {Op: impl.OInc, Dst: r1}, {Op: impl.OCmp, Src: r1, Dst: r2}, {Op: impl.OJsr, N: 5, Dst: absolute(400)},
		{Op: impl.ORts, N: 5}, {Op: impl.OBr, N: 3}, {Op: impl.OHalt}, {Op: impl.OEmt, N: 1}, {Op: impl.OEmt, N: 2}, {Op: impl.OEmt, N: 3}, {Op: impl.OJmp, Dst: r1},
	} {
		start := func() impl.Mach {
			m := machWithRoom()
			m.R[6] = 500
			copy(m.Mem[50:], impl.Encode(x))
			return m
		}
		for _, stop := range []int{impl.StRun, impl.StHalt, impl.StFault, 3} {
			checkNewMemoryOf(t, fmt.Sprint("Step of ", x, " ", stop), start, func(m impl.Mach) impl.Mach {
				m.Stop = stop
				return impl.Step(m)
			})
		}
	}
}

// What an instruction does is a function value: the layer has a type of functions, and a function that answers one by the Op.
func TestWhatAnInstructionDoesIsAFunctionValue(t *testing.T) {
	_, files := programFiles(t)
	f := files["l07_step.go"]
	if f == nil {
		t.Fatal("no l07_step.go")
	}
	kinds := map[string]bool{}
	ast.Inspect(f, func(n ast.Node) bool {
		if s, ok := n.(*ast.TypeSpec); ok {
			if _, ok := s.Type.(*ast.FuncType); ok {
				kinds[s.Name.Name] = true
			}
		}
		return true
	})
	for _, d := range f.Decls {
		if x, ok := d.(*ast.FuncDecl); ok && x.Type.Results != nil {
			for _, r := range x.Type.Results.List {
				if id, ok := r.Type.(*ast.Ident); ok && kinds[id.Name] {
					return
				}
			}
		}
	}
	t.Error("no function answers a function value")
}
