package tests

import (
	"go/ast"
	"go/types"
	"math"
	"slices"
	"testing"

	"loop.example/g00329/impl"
)

// noAddresses are those at which a machine of 256 words has none.
var noAddresses = []int{
	-1, -2, -3, -510, -512, 1, 3, 101, 255, 257, 509, 511, 512, 513, 514, 1024, 65534, 65535, 65536,
	1 << 32, 1<<32 + 2, math.MinInt, math.MinInt + 1, math.MaxInt, math.MaxInt - 1,
}

// noWords are numbers just outside the words, and far outside.
var noWords = []int{-1, -2, -65535, -65536, 65536, 65537, 1 << 32, math.MinInt, math.MaxInt}

// someWords has n words, no two side by side alike.
func someWords(n int) []int {
	l := make([]int, n)
	for i := range l {
		l[i] = (i*257 + 1) % 65536
	}
	return l
}

// fullMach is a right machine of which no part is zero.
func fullMach() impl.Mach {
	return impl.Mach{
		Mem: someWords(256), R: []int{1, 2, 3, 4, 5, 65535, 512, 64},
		N: true, Z: true, V: true, C: true,
		In: []int{7, 0, 65535}, Out: []int{9, 65535}, Stop: impl.StFault,
	}
}

func copyOfMach(m impl.Mach) impl.Mach {
	m.Mem, m.R, m.In, m.Out = slices.Clone(m.Mem), slices.Clone(m.R), slices.Clone(m.In), slices.Clone(m.Out)
	return m
}

// sameMach takes an empty list and nil for the same.
func sameMach(a, b impl.Mach) bool {
	return slices.Equal(a.Mem, b.Mem) && slices.Equal(a.R, b.R) && slices.Equal(a.In, b.In) && slices.Equal(a.Out, b.Out) &&
		a.N == b.N && a.Z == b.Z && a.V == b.V && a.C == b.C && a.Stop == b.Stop
}

// wantMach is what the document tells of MachNew, where it has one.
func wantMach(image []int, at, start int, in []int) impl.Mach {
	m := impl.Mach{Mem: make([]int, 256), R: []int{0, 0, 0, 0, 0, 0, 512, start}, In: in}
	for i, n := range image {
		m.Mem[at/2+i] = n
	}
	return m
}

func checkMachNew(t *testing.T, image []int, at, start int, in []int) {
	t.Helper()
	m := impl.MachNew(image, at, start, in)
	if !sameMach(m, wantMach(image, at, start, in)) {
		t.Errorf("MachNew of %d words at %d, start %d, %d in: %v", len(image), at, start, len(in), m)
	}
	if !impl.MachOk(m) {
		t.Errorf("MachNew of %d words at %d, start %d, %d in is not MachOk", len(image), at, start, len(in))
	}
}

func checkNoMach(t *testing.T, image []int, at, start int, in []int) {
	t.Helper()
	if m := impl.MachNew(image, at, start, in); !sameMach(m, impl.Mach{}) {
		t.Errorf("MachNew of %d words at %d, start %d, %d in: %v, want the zero one", len(image), at, start, len(in), m)
	}
}

func checkMachOk(t *testing.T, what string, m impl.Mach, want bool) {
	t.Helper()
	if impl.MachOk(m) != want {
		t.Errorf("MachOk of one with %s is not %v", what, want)
	}
}

func checkRead(t *testing.T, m impl.Mach, a, want int) {
	t.Helper()
	if n, ok := impl.ReadW(m, a); !ok || n != want {
		t.Errorf("ReadW at %d: %d %v, want %d", a, n, ok, want)
	}
}

func checkNoRead(t *testing.T, m impl.Mach, a int) {
	t.Helper()
	if n, ok := impl.ReadW(m, a); ok || n != 0 {
		t.Errorf("ReadW at %d: %d %v, want 0 and false", a, n, ok)
	}
}

func checkWrite(t *testing.T, m impl.Mach, a, n, stored int) {
	t.Helper()
	want := copyOfMach(m)
	want.Mem[a/2] = stored
	x, ok := impl.WriteW(m, a, n)
	if !ok || !sameMach(x, want) {
		t.Errorf("WriteW of %d at %d: %v %v, want %v", n, a, x, ok, want)
	}
}

func checkNoWrite(t *testing.T, m impl.Mach, a, n int) {
	t.Helper()
	want := copyOfMach(m)
	if x, ok := impl.WriteW(m, a, n); ok || !sameMach(x, want) {
		t.Errorf("WriteW of %d at %d: %v %v, want the machine as it was, and false", n, a, x, ok)
	}
}

func TestMachConstants(t *testing.T) {
	if impl.MemWords != 256 || impl.StRun != 0 || impl.StHalt != 1 || impl.StFault != 2 {
		t.Error(impl.MemWords, impl.StRun, impl.StHalt, impl.StFault)
	}
}

func TestMachNewAtEveryAddress(t *testing.T) {
	for at := 0; at <= 510; at += 2 {
		fits := (512 - at) / 2
		checkMachNew(t, nil, at, at, nil)
		checkMachNew(t, []int{}, at, 0, []int{})
		checkMachNew(t, []int{65535}, at, 65535, []int{at})
		checkMachNew(t, someWords(fits), at, 64, someWords(50))
		checkNoMach(t, someWords(fits+1), at, 64, nil)
	}
	checkNoMach(t, someWords(1000), 0, 0, nil)
}

func TestMachNewWhereThereIsNoAddress(t *testing.T) {
	for _, at := range noAddresses {
		checkNoMach(t, nil, at, 0, nil)
		checkNoMach(t, []int{1}, at, 64, []int{2})
	}
	for _, at := range []int{0, 510} {
		checkMachNew(t, []int{1}, at, 64, []int{2})
	}
}

func TestMachNewOfWordsAndNoWords(t *testing.T) {
	for _, n := range []int{0, 1, 32767, 32768, 65534, 65535} {
		checkMachNew(t, []int{n}, 100, n, []int{n})
		checkMachNew(t, []int{1, 2, n}, 506, 0, []int{3, 4, n})
	}
	for _, n := range noWords {
		checkNoMach(t, []int{n}, 100, 0, nil)
		checkNoMach(t, []int{1, 2, n}, 506, 0, nil)
		checkNoMach(t, []int{n, 1, 2}, 0, 0, nil)
		checkNoMach(t, nil, 0, n, nil)
		checkNoMach(t, []int{1}, 0, n, []int{1})
		checkNoMach(t, nil, 0, 0, []int{n})
		checkNoMach(t, []int{1}, 0, 0, []int{3, 4, n})
		checkNoMach(t, []int{1}, 0, 0, []int{n, 3, 4})
	}
}

func TestMachNewOfWhatIsToCome(t *testing.T) {
	for _, n := range []int{0, 1, 49, 50} {
		checkMachNew(t, nil, 0, 0, someWords(n))
	}
	for _, n := range []int{51, 52, 256, 1000} {
		checkNoMach(t, nil, 0, 0, someWords(n))
		checkNoMach(t, nil, 0, 0, make([]int, n))
	}
	last := someWords(50)
	last[49] = 65536
	checkNoMach(t, nil, 0, 0, last)
}

func TestMachNewReadsNothingBehindItsLists(t *testing.T) {
	image, in := []int{1, 2, -1, 65536}, append(someWords(50), -1)
	m := impl.MachNew(image[:2], 508, 0, in[:50])
	if !sameMach(m, wantMach([]int{1, 2}, 508, 0, someWords(50))) {
		t.Error(m)
	}
	_ = append(m.In, 77)
	if !slices.Equal(image, []int{1, 2, -1, 65536}) || in[50] != -1 {
		t.Error("written:", image, in)
	}
}

func TestMachOkOfRightOnes(t *testing.T) {
	checkMachOk(t, "all that it may have", fullMach(), true)
	for _, stop := range []int{impl.StRun, impl.StHalt, impl.StFault} {
		m := fullMach()
		m.Stop = stop
		checkMachOk(t, "another Stop", m, true)
	}
	for _, n := range []int{0, 1, 49, 50} {
		m := fullMach()
		m.In = someWords(n)
		checkMachOk(t, "another In", m, true)
		m = fullMach()
		m.Out = someWords(n)
		checkMachOk(t, "another Out", m, true)
	}
	flags := fullMach()
	flags.N, flags.Z, flags.V, flags.C = false, false, false, false
	checkMachOk(t, "no flag", flags, true)
	odd := fullMach()
	odd.R[6], odd.R[7] = 65535, 513
	checkMachOk(t, "registers that are no addresses", odd, true)
	noughts := impl.Mach{Mem: make([]int, 256), R: make([]int, 8)}
	checkMachOk(t, "noughts alone", noughts, true)
}

func TestMachOkOfHowManyWords(t *testing.T) {
	checkMachOk(t, "nothing", impl.Mach{}, false)
	checkMachOk(t, "no memory", impl.Mach{R: make([]int, 8)}, false)
	checkMachOk(t, "no register", impl.Mach{Mem: make([]int, 256)}, false)
	for _, n := range []int{0, 1, 8, 128, 255, 257, 512, 65536} {
		m := fullMach()
		m.Mem = make([]int, n)
		checkMachOk(t, "another memory", m, false)
	}
	for _, n := range []int{0, 1, 6, 7, 9, 16, 256} {
		m := fullMach()
		m.R = make([]int, n)
		checkMachOk(t, "another count of registers", m, false)
	}
	for _, n := range []int{51, 52, 256} {
		m := fullMach()
		m.In = make([]int, n)
		checkMachOk(t, "too many in", m, false)
		m = fullMach()
		m.Out = make([]int, n)
		checkMachOk(t, "too many out", m, false)
	}
	room := fullMach()
	room.Mem = make([]int, 255, 256)
	checkMachOk(t, "a last word behind the list", room, false)
}

func TestMachOkOfWhatIsNoWord(t *testing.T) {
	for _, n := range noWords {
		whole := fullMach()
		whole.In, whole.Out = someWords(50), someWords(50)
		for _, l := range [][]int{whole.Mem, whole.R, whole.In, whole.Out} {
			for i, was := range l {
				l[i] = n
				checkMachOk(t, "what is no word", whole, false)
				l[i] = was
			}
		}
		checkMachOk(t, "words again", whole, true)
	}
}

func TestMachOkOfStop(t *testing.T) {
	for _, stop := range append([]int{3, 4, 255, 256}, noWords...) {
		m := fullMach()
		m.Stop = stop
		checkMachOk(t, "a Stop that is none", m, false)
	}
}

func TestReadWAtEveryAddress(t *testing.T) {
	m := fullMach()
	for a := -600; a <= 1200; a++ {
		if a >= 0 && a <= 510 && a%2 == 0 {
			checkRead(t, m, a, (a/2*257+1)%65536)
		} else {
			checkNoRead(t, m, a)
		}
	}
	for _, a := range noAddresses {
		checkNoRead(t, m, a)
	}
}

func TestWhatIsWrittenIsRead(t *testing.T) {
	m := fullMach()
	for a := 0; a <= 510; a += 2 {
		x, ok := impl.WriteW(m, a, 4711)
		if !ok {
			t.Fatal("no place", a)
		}
		for b := 0; b <= 510; b += 2 {
			if b == a {
				checkRead(t, x, b, 4711)
			} else {
				checkRead(t, x, b, m.Mem[b/2])
			}
		}
		checkMachOk(t, "a word written", x, true)
	}
}

func TestWriteWTurnsOneWordAlone(t *testing.T) {
	numbers := []struct{ n, stored int }{
		{0, 0}, {1, 1}, {32768, 32768}, {65535, 65535}, {65536, 0}, {65537, 1}, {-1, 65535}, {-2, 65534}, {-65535, 1}, {-65536, 0},
		{-65537, 65535}, {131071, 65535}, {1 << 32, 0}, {1<<32 + 5, 5}, {math.MaxInt, 65535}, {math.MinInt, 0}, {math.MinInt + 1, 1},
	}
	for _, m := range []impl.Mach{fullMach(), impl.MachNew([]int{3, 4}, 64, 64, nil)} {
		for a := 0; a <= 510; a += 2 {
			for _, z := range numbers {
				checkWrite(t, m, a, z.n, z.stored)
			}
		}
	}
}

func TestWriteWOfManyBehindEachOther(t *testing.T) {
	m := impl.MachNew(nil, 0, 0, nil)
	for a := 510; a >= 0; a -= 2 {
		x, ok := impl.WriteW(m, a, -a)
		if !ok {
			t.Fatal("no place", a)
		}
		m = x
	}
	for a := 0; a <= 510; a += 2 {
		checkRead(t, m, a, (65536-a)%65536)
	}
}

func TestWriteWWhereThereIsNoAddress(t *testing.T) {
	for _, a := range noAddresses {
		for _, n := range []int{0, 1, -1, 65536} {
			checkNoWrite(t, fullMach(), a, n)
			checkNoWrite(t, impl.Mach{}, a, n)
		}
	}
}

func TestReadsAndWritesWhereWordsLack(t *testing.T) {
	for _, words := range []int{0, 1, 2, 100, 255} {
		m := fullMach()
		m.Mem = someWords(words)
		for a := 0; a <= 510; a += 2 {
			if a/2 < words {
				checkRead(t, m, a, m.Mem[a/2])
				checkWrite(t, m, a, -7, 65529)
			} else {
				checkNoRead(t, m, a)
				checkNoWrite(t, m, a, 5)
			}
		}
		for _, a := range noAddresses {
			checkNoRead(t, m, a)
			checkNoWrite(t, m, a, 5)
		}
	}
	for a := 0; a <= 510; a += 2 {
		checkNoRead(t, impl.Mach{}, a)
		checkNoWrite(t, impl.Mach{}, a, 5)
	}
	room := impl.Mach{Mem: someWords(256)[:3]}
	checkRead(t, room, 4, room.Mem[2])
	checkNoRead(t, room, 6)
	checkNoWrite(t, room, 6, 5)
}

// What is not MachOk in other parts is read and written all the same, and those parts stay as they were.
func TestReadsAndWritesOfMachinesThatAreNotRight(t *testing.T) {
	more := fullMach()
	more.Mem = someWords(300)
	checkRead(t, more, 510, more.Mem[255])
	checkNoRead(t, more, 512)
	checkNoWrite(t, more, 512, 1)
	checkWrite(t, more, 510, -1, 65535)
	for _, m := range []impl.Mach{
		{Mem: someWords(256)},
		{Mem: someWords(256), R: someWords(9), In: someWords(51), Out: someWords(60), Stop: 3},
		{Mem: someWords(256), R: []int{-1}, In: []int{65536}, Out: []int{math.MinInt}, Stop: -1, V: true},
		{Mem: append([]int{-1, 65536, math.MaxInt}, someWords(253)...), R: make([]int, 8)},
	} {
		checkRead(t, m, 0, m.Mem[0])
		checkRead(t, m, 6, m.Mem[3])
		checkWrite(t, m, 6, 65537, 1)
		checkNoWrite(t, m, 7, 1)
	}
}

// scratch turns all that a machine's lists lead to, the spare room behind them, too.
func scratch(m impl.Mach) {
	for _, l := range [][]int{m.Mem, m.R, m.In, m.Out} {
		l = l[:cap(l)]
		for i := range l {
			l[i] = -99
		}
	}
}

func TestMachNewIsNewMemory(t *testing.T) {
	image, in := []int{1, 2, 3}, []int{4, 5}
	m := impl.MachNew(image, 64, 66, in)
	other := impl.MachNew(image, 64, 66, in)
	scratch(m)
	if !slices.Equal(image, []int{1, 2, 3}) || !slices.Equal(in, []int{4, 5}) {
		t.Error("an argument is shared:", image, in)
	}
	image[0], in[0] = -5, -6
	if !sameMach(other, wantMach([]int{1, 2, 3}, 64, 66, []int{4, 5})) {
		t.Error("an answer is shared:", other)
	}
	whole := someWords(256)
	m = impl.MachNew(whole, 0, 0, nil)
	scratch(m)
	if !slices.Equal(whole, someWords(256)) {
		t.Error("the image is shared")
	}
}

func TestWriteWIsNewMemory(t *testing.T) {
	for _, a := range []int{0, 100, 510, 101, 512, -2} {
		m := fullMach()
		m.Mem, m.R = append(m.Mem, 11)[:256], append(m.R, 12)[:8]
		m.In, m.Out = append(m.In, 13)[:3], append(m.Out, 14)[:2]
		was := copyOfMach(m)
		x, ok := impl.WriteW(m, a, 5)
		if !sameMach(m, was) {
			t.Errorf("WriteW at %d wrote into its argument", a)
		}
		want := copyOfMach(was)
		if ok {
			want.Mem[a/2] = 5
		}
		y, _ := impl.WriteW(m, a, 5)
		scratch(y)
		if !sameMach(m, was) || !sameMach(x, want) {
			t.Errorf("WriteW at %d shares memory", a)
		}
		if m.Mem[:257][256] != 11 || m.R[:9][8] != 12 || m.In[:4][3] != 13 || m.Out[:3][2] != 14 {
			t.Errorf("WriteW at %d wrote behind a list", a)
		}
		scratch(m)
		if !sameMach(x, want) {
			t.Errorf("WriteW at %d shares memory with its argument", a)
		}
	}
}

func TestAskingWritesNothing(t *testing.T) {
	m := fullMach()
	impl.MachOk(m)
	impl.ReadW(m, 100)
	impl.ReadW(m, 101)
	if !sameMach(m, fullMach()) {
		t.Error(m)
	}
}

// isMemoryMethod tells whether a method belongs to an array of MemWords.
func isMemoryMethod(o types.Object) bool {
	f, ok := o.(*types.Func)
	if !ok || f.Signature().Recv() == nil {
		return false
	}
	of := f.Signature().Recv().Type()
	if p, ok := of.(*types.Pointer); ok {
		of = p.Elem()
	}
	a, ok := of.Underlying().(*types.Array)
	return ok && a.Len() == impl.MemWords
}

// Memory is an array that a machine embeds, whose methods are promoted.
func TestMemoryIsAnArrayWhoseMethodsArePromoted(t *testing.T) {
	info := &types.Info{Selections: map[*ast.SelectorExpr]*types.Selection{}}
	typedFiles(t, info)
	for _, s := range info.Selections {
		if s.Kind() == types.MethodVal && len(s.Index()) > 1 && isMemoryMethod(s.Obj()) {
			return
		}
	}
	t.Error("no promoted method of an array of MemWords is used")
}
