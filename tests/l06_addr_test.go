package tests

import (
	"fmt"
	"go/ast"
	"math"
	"slices"
	"testing"

	"loop.example/g00329/impl"
)

func inReg(r int) impl.Place { return impl.Place{Reg: r, At: -1} }

func atAddress(a int) impl.Place { return impl.Place{Reg: -1, At: a} }

// noPlaces are those where no machine has anything.
func noPlaces() []impl.Place {
	l := []impl.Place{
		{}, {Reg: -1, At: -1}, {Reg: -2, At: -2}, {Reg: 1, At: 0}, {Reg: 0, At: 2}, {Reg: 7, At: 100}, {Reg: 8, At: 100}, {Reg: -2, At: 100},
		{Reg: 0, At: 1}, {Reg: 0, At: -2}, {Reg: 3, At: math.MinInt}, {Reg: math.MaxInt, At: 0}, {Reg: math.MinInt, At: 510},
	}
	for _, r := range []int{-1, -2, -7, -8, 8, 9, 15, 16, 255, 256, 65535, 1 << 32, 1<<32 + 1, math.MinInt, math.MaxInt} {
		l = append(l, inReg(r))
	}
	for _, a := range noAddresses {
		l = append(l, atAddress(a))
	}
	return l
}

// allPlaces are those where a right machine has something: 8 registers, and 256 addresses.
func allPlaces() []impl.Place {
	var l []impl.Place
	for r := range 8 {
		l = append(l, inReg(r))
	}
	for a := 0; a <= 510; a += 2 {
		l = append(l, atAddress(a))
	}
	return l
}

// startMach has these words by address. All other registers and words are odd, no two alike, and lead nowhere, so that one that is taken for another is seen.
func startMach(words map[int]int) impl.Mach {
	m := fullMach()
	m.Stop = impl.StRun
	m.R = []int{10001, 10003, 10005, 10007, 10009, 10011, 10013, 10015}
	for i := range m.Mem {
		m.Mem[i] = 20001 + 2*i
	}
	for a, n := range words {
		m.Mem[a/2] = n
	}
	return m
}

// machAt is startMach with n in a register, and next in 7, where that is another one.
func machAt(words map[int]int, reg, n, next int) impl.Mach {
	m := startMach(words)
	m.R[7] = next
	m.R[reg] = n
	return m
}

// checkPlace wants that place, and of all the machine these registers alone turned.
func checkPlace(t *testing.T, m impl.Mach, o impl.Opd, p impl.Place, turned map[int]int) {
	t.Helper()
	want := copyOfMach(m)
	for r, n := range turned {
		want.R[r] = n
	}
	x, got, ok := impl.PlaceOf(m, o)
	if !ok || got != p {
		t.Errorf("PlaceOf of %v, registers %v: %v %v, want %v", o, m.R, got, ok, p)
	}
	if !sameMach(x, want) {
		t.Errorf("PlaceOf of %v, registers %v: registers %v, want %v and nothing else turned", o, m.R, x.R, want.R)
	}
	if !impl.MachOk(x) {
		t.Errorf("PlaceOf of %v, registers %v: not MachOk", o, m.R)
	}
}

func checkNoPlace(t *testing.T, why string, m impl.Mach, o impl.Opd) {
	t.Helper()
	want := copyOfMach(m)
	x, p, ok := impl.PlaceOf(m, o)
	if ok || p != (impl.Place{}) {
		t.Errorf("PlaceOf of %v, registers %v (%s): %v %v, want the zero one and false", o, m.R, why, p, ok)
	}
	if !sameMach(x, want) {
		t.Errorf("PlaceOf of %v, registers %v (%s): the machine is not as it was: registers %v", o, m.R, why, x.R)
	}
}

// xOf are numbers for an operand's own word: what stands in the memory counts, not these.
func xOf(o impl.Opd) []int {
	if impl.HasX(o) {
		return []int{0, 1, 20, 66, 32768, 65535}
	}
	return []int{0}
}

func TestPlaceOfEachModeOfRegisters0To6(t *testing.T) {
	words := map[int]int{100: 20, 200: 300, 198: 44, 220: 66}
	modes := []struct {
		at, reg, next int
	}{{-1, 200, 100}, {200, 200, 100}, {200, 202, 100}, {300, 202, 100}, {198, 198, 100}, {44, 198, 100}, {220, 200, 102}, {66, 200, 102}}
	for r := range 7 {
		m := machAt(words, r, 200, 100)
		for mode, z := range modes {
			p := atAddress(z.at)
			if mode == 0 {
				p = inReg(r)
			}
			o := impl.Opd{Mode: mode, Reg: r}
			for _, o.X = range xOf(o) {
				checkPlace(t, m, o, p, map[int]int{r: z.reg, 7: z.next})
			}
		}
	}
}

func TestPlaceOfEachModeOfRegister7(t *testing.T) {
	m := machAt(map[int]int{100: 20, 98: 44, 122: 66, 120: 88}, 7, 100, 100)
	for mode, z := range []struct {
		p    impl.Place
		next int
	}{{inReg(7), 100}, {atAddress(100), 100}, {atAddress(100), 102}, {atAddress(20), 102}, {atAddress(98), 98}, {atAddress(44), 98}, {atAddress(122), 102}, {atAddress(66), 102}} {
		o := impl.Opd{Mode: mode, Reg: 7}
		for _, o.X = range xOf(o) {
			checkPlace(t, m, o, z.p, map[int]int{7: z.next})
		}
	}
}

// The place of Mode 1, 2 and 4 may be one where nothing stands: nothing is read.
func TestPlaceOfModesThatReadNothing(t *testing.T) {
	numbers := []int{32766, 32767, 32768, 32769, 65532, 65533, 65534, 65535}
	for n := range 520 {
		numbers = append(numbers, n)
	}
	for r := range 8 {
		for _, n := range numbers {
			m := machAt(nil, r, n, 511)
			checkPlace(t, m, impl.Opd{Reg: r}, inReg(r), nil)
			checkPlace(t, m, impl.Opd{Mode: 1, Reg: r}, atAddress(n), nil)
			checkPlace(t, m, impl.Opd{Mode: 2, Reg: r}, atAddress(n), map[int]int{r: (n + 2) % 65536})
			less := (n + 65534) % 65536
			checkPlace(t, m, impl.Opd{Mode: 4, Reg: r}, atAddress(less), map[int]int{r: less})
		}
	}
}

func TestPlaceOfIsWrapped(t *testing.T) {
	for r := range 8 {
		for _, z := range []struct{ n, more int }{{65533, 65535}, {65534, 0}, {65535, 1}} {
			checkPlace(t, machAt(nil, r, z.n, z.n), impl.Opd{Mode: 2, Reg: r}, atAddress(z.n), map[int]int{r: z.more})
		}
		for _, z := range []struct{ n, less int }{{0, 65534}, {1, 65535}, {2, 0}, {3, 1}} {
			checkPlace(t, machAt(nil, r, z.n, z.n), impl.Opd{Mode: 4, Reg: r}, atAddress(z.less), map[int]int{r: z.less})
		}
	}
	for r := range 7 {
		for _, z := range []struct{ x, n, at int }{
			{65535, 1, 0}, {65535, 2, 1}, {65534, 1, 65535}, {1, 65535, 0}, {65535, 65535, 65534}, {32768, 32768, 0}, {40000, 30000, 4464}, {0, 0, 0}, {0, 65535, 65535},
		} {
			m := machAt(map[int]int{300: z.x}, r, z.n, 300)
			checkPlace(t, m, impl.Opd{Mode: 6, Reg: r}, atAddress(z.at), map[int]int{7: 302})
		}
		m := machAt(map[int]int{300: 65000, 464: 501}, r, 1000, 300)
		checkPlace(t, m, impl.Opd{Mode: 7, Reg: r}, atAddress(501), map[int]int{7: 302})
	}
	for _, z := range []struct{ x, at int }{{65234, 0}, {65233, 65535}, {65535, 301}, {0, 302}} {
		checkPlace(t, machAt(map[int]int{300: z.x}, 7, 300, 300), impl.Opd{Mode: 6, Reg: 7}, atAddress(z.at), map[int]int{7: 302})
	}
	m := machAt(map[int]int{300: 65334, 100: 7}, 7, 300, 300)
	checkPlace(t, m, impl.Opd{Mode: 7, Reg: 7}, atAddress(7), map[int]int{7: 302})
}

// The words at the memory's ends are read, and what they have is a place even where it is no address.
func TestPlaceOfReadsUpToTheEnds(t *testing.T) {
	for _, word := range []int{0, 1, 511, 512, 65535} {
		words := map[int]int{0: word, 510: word}
		for r := range 8 {
			for _, a := range []int{0, 510} {
				checkPlace(t, machAt(words, r, a, a), impl.Opd{Mode: 3, Reg: r}, atAddress(word), map[int]int{r: a + 2})
				checkPlace(t, machAt(words, r, a+2, a+2), impl.Opd{Mode: 5, Reg: r}, atAddress(word), map[int]int{r: a})
			}
		}
		for r := range 7 {
			for _, a := range []int{0, 510} {
				m := machAt(words, r, 0, a)
				checkPlace(t, m, impl.Opd{Mode: 6, Reg: r}, atAddress(word), map[int]int{7: a + 2})
				m = machAt(map[int]int{a: word, 100: a}, r, 0, 100)
				checkPlace(t, m, impl.Opd{Mode: 7, Reg: r}, atAddress(word), map[int]int{7: 102})
			}
		}
	}
	m := machAt(map[int]int{510: 65535}, 7, 510, 510)
	checkPlace(t, m, impl.Opd{Mode: 6, Reg: 7}, atAddress(511), map[int]int{7: 512})
	m = machAt(map[int]int{510: 65534}, 7, 510, 510)
	checkPlace(t, m, impl.Opd{Mode: 7, Reg: 7}, atAddress(65534), map[int]int{7: 512})
}

func TestPlaceOfWhereAWordToBeReadIsNotThere(t *testing.T) {
	nowhere := []int{1, 3, 101, 509, 511, 512, 513, 514, 516, 1024, 32768, 65533, 65534, 65535}
	for _, a := range nowhere {
		for r := range 8 {
			checkNoPlace(t, "nothing there", machAt(nil, r, a, a), impl.Opd{Mode: 3, Reg: r})
			more := (a + 2) % 65536
			checkNoPlace(t, "nothing there", machAt(nil, r, more, more), impl.Opd{Mode: 5, Reg: r})
			for _, mode := range []int{6, 7} {
				m := machAt(nil, r, 100, a)
				m.R[7] = a
				for _, x := range []int{0, 2, 65535} {
					checkNoPlace(t, "nothing at 7's address", m, impl.Opd{Mode: mode, Reg: r, X: x})
				}
			}
		}
		for r := range 7 {
			m := machAt(map[int]int{100: a}, r, 0, 100)
			checkNoPlace(t, "nothing where both lead", m, impl.Opd{Mode: 7, Reg: r})
			checkPlace(t, m, impl.Opd{Mode: 6, Reg: r}, atAddress(a), map[int]int{7: 102})
		}
		m := machAt(map[int]int{100: (a - 102 + 65536) % 65536}, 7, 100, 100)
		checkNoPlace(t, "nothing where both lead", m, impl.Opd{Mode: 7, Reg: 7})
		checkPlace(t, m, impl.Opd{Mode: 6, Reg: 7}, atAddress(a), map[int]int{7: 102})
	}
	for r := range 8 {
		for _, n := range []int{0, 1} {
			checkNoPlace(t, "2 less is the last one", machAt(nil, r, n, n), impl.Opd{Mode: 5, Reg: r})
		}
	}
}

// wantPlace goes by the document's words: the registers then, the place, and whether there is one.
func wantPlace(m impl.Mach, o impl.Opd) ([]int, impl.Place, bool) {
	r := slices.Clone(m.R)
	a := r[o.Reg]
	if o.Mode == 0 {
		return r, inReg(o.Reg), true
	}
	if o.Mode == 2 || o.Mode == 3 {
		r[o.Reg] = (a + 2) % 65536
	}
	if o.Mode == 4 || o.Mode == 5 {
		a = (a + 65534) % 65536
		r[o.Reg] = a
	}
	if o.Mode >= 6 {
		x, ok := impl.ReadW(m, r[7])
		if !ok {
			return m.R, impl.Place{}, false
		}
		r[7] = (r[7] + 2) % 65536
		a = (x + r[o.Reg]) % 65536
	}
	if o.Mode == 3 || o.Mode == 5 || o.Mode == 7 {
		word, ok := impl.ReadW(m, a)
		if !ok {
			return m.R, impl.Place{}, false
		}
		a = word
	}
	return r, atAddress(a), true
}

func TestPlaceOfManyMachines(t *testing.T) {
	seed, there := uint32(1), 0
	next := func(n int) int {
		seed = seed*1664525 + 1013904223
		return int(seed>>8) % n
	}
	for range 3000 {
		m := impl.MachNew(nil, 0, 0, nil)
		for i := range m.Mem {
			m.Mem[i] = next(300) * 2
		}
		for i := range m.R {
			m.R[i] = (next(520) + 65534) % 65536
		}
		for mode := range 8 {
			o := impl.Opd{Mode: mode, Reg: next(8)}
			want := copyOfMach(m)
			r, p, ok := wantPlace(m, o)
			want.R = r
			x, got, is := impl.PlaceOf(m, o)
			if is != ok || got != p || !sameMach(x, want) {
				t.Fatalf("PlaceOf of %v, registers %v: %v %v %v, want %v %v %v", o, m.R, x.R, got, is, r, p, ok)
			}
			if ok {
				there++
			}
		}
	}
	if there < 8000 || there > 23000 {
		t.Error("of one kind alone:", there)
	}
}

// wrongMachs are machines that are not MachOk, each by one part alone, all with a word wherever an operand leads.
func wrongMachs() map[string]impl.Mach {
	l := map[string]impl.Mach{}
	put := func(what string, turn func(m *impl.Mach)) {
		m := machAt(map[int]int{100: 20, 200: 300, 198: 44, 220: 66}, 1, 200, 100)
		turn(&m)
		l[what] = m
	}
	put("no memory", func(m *impl.Mach) { m.Mem = nil })
	put("255 words", func(m *impl.Mach) { m.Mem = m.Mem[:255] })
	put("257 words", func(m *impl.Mach) { m.Mem = append(m.Mem, 1) })
	put("no registers", func(m *impl.Mach) { m.R = nil })
	put("1 register", func(m *impl.Mach) { m.R = m.R[:1] })
	put("7 registers", func(m *impl.Mach) { m.R = m.R[:7] })
	put("9 registers", func(m *impl.Mach) { m.R = append(m.R, 1) })
	put("51 in", func(m *impl.Mach) { m.In = someWords(51) })
	put("51 out", func(m *impl.Mach) { m.Out = someWords(51) })
	put("Stop 3", func(m *impl.Mach) { m.Stop = 3 })
	put("Stop -1", func(m *impl.Mach) { m.Stop = -1 })
	for _, n := range []int{-1, 65536, math.MinInt, math.MaxInt} {
		put(fmt.Sprint("a word ", n), func(m *impl.Mach) { m.Mem[3] = n })
		put(fmt.Sprint("7 at ", n), func(m *impl.Mach) { m.R[7] = n })
		put(fmt.Sprint("register 1 at ", n), func(m *impl.Mach) { m.R[1] = n })
		put(fmt.Sprint("in ", n), func(m *impl.Mach) { m.In[1] = n })
		put(fmt.Sprint("out ", n), func(m *impl.Mach) { m.Out[1] = n })
	}
	l["the zero one"] = impl.Mach{}
	return l
}

func TestPlaceOfMachinesThatAreNotRight(t *testing.T) {
	for what, m := range wrongMachs() {
		for mode := range 8 {
			for r := range 8 {
				checkNoPlace(t, what, m, impl.Opd{Mode: mode, Reg: r})
			}
		}
		checkNoPlace(t, what+", and no operand", m, impl.Opd{Mode: 8, Reg: -1})
	}
	for _, stop := range []int{impl.StRun, impl.StHalt, impl.StFault} {
		m := machAt(nil, 1, 200, 100)
		m.Stop = stop
		checkPlace(t, m, impl.Opd{Mode: 2, Reg: 1}, atAddress(200), map[int]int{1: 202})
	}
}

func TestPlaceOfOperandsThatAreNotRight(t *testing.T) {
	m := machAt(map[int]int{100: 20, 200: 300, 198: 44, 220: 66}, 1, 200, 100)
	for _, n := range []int{-1, -2, 8, 9, 16, 1 << 32, math.MinInt, math.MaxInt} {
		for k := range 8 {
			checkNoPlace(t, "no Mode", m, impl.Opd{Mode: n, Reg: k})
			checkNoPlace(t, "no Reg", m, impl.Opd{Mode: k, Reg: n})
		}
		checkNoPlace(t, "neither", m, impl.Opd{Mode: n, Reg: n, X: n})
	}
	for mode := range 8 {
		for r := range 8 {
			o := impl.Opd{Mode: mode, Reg: r}
			for _, o.X = range noWords {
				checkNoPlace(t, "X is no word", m, o)
			}
			if !impl.HasX(o) {
				for _, o.X = range []int{1, 2, 20, 65535} {
					checkNoPlace(t, "an X that it has not", m, o)
				}
			}
		}
	}
}

func checkLoad(t *testing.T, m impl.Mach, p impl.Place, want int) {
	t.Helper()
	if n, ok := impl.Load(m, p); !ok || n != want {
		t.Errorf("Load of %v: %d %v, want %d", p, n, ok, want)
	}
}

func checkNothingIn(t *testing.T, m impl.Mach, p impl.Place) {
	t.Helper()
	if n, ok := impl.Load(m, p); ok || n != 0 {
		t.Errorf("Load of %v (%d words, %d registers): %d %v, want 0 and false", p, len(m.Mem), len(m.R), n, ok)
	}
	for _, n := range []int{0, 1, -1, 65536} {
		want := copyOfMach(m)
		if x, ok := impl.Store(m, p, n); ok || !sameMach(x, want) {
			t.Errorf("Store of %d in %v (%d words, %d registers): %v, want the machine as it was, and false", n, p, len(m.Mem), len(m.R), ok)
		}
	}
}

// checkStore wants stored there, and nothing else turned.
func checkStore(t *testing.T, m impl.Mach, p impl.Place, n, stored int) {
	t.Helper()
	want := copyOfMach(m)
	if p.At == -1 {
		want.R[p.Reg] = stored
	} else {
		want.Mem[p.At/2] = stored
	}
	x, ok := impl.Store(m, p, n)
	if !ok || !sameMach(x, want) {
		t.Errorf("Store of %d in %v: %v, want %d there and nothing else turned", n, p, ok, stored)
	}
	checkLoad(t, x, p, stored)
}

func TestLoadOfEachPlace(t *testing.T) {
	m := fullMach()
	for r := range 8 {
		checkLoad(t, m, inReg(r), m.R[r])
	}
	for a := -600; a <= 1200; a++ {
		if a >= 0 && a <= 510 && a%2 == 0 {
			checkLoad(t, m, atAddress(a), (a/2*257+1)%65536)
		} else {
			checkNothingIn(t, m, atAddress(a))
		}
	}
}

func TestLoadAndStoreWhereThereIsNone(t *testing.T) {
	for _, p := range noPlaces() {
		checkNothingIn(t, fullMach(), p)
		checkNothingIn(t, impl.MachNew(nil, 0, 0, nil), p)
		checkNothingIn(t, impl.Mach{}, p)
		checkNothingIn(t, impl.Mach{Mem: someWords(300), R: someWords(12)}, p)
	}
	for r := range 8 {
		for a := -4; a <= 520; a++ {
			if a != -1 {
				checkNothingIn(t, fullMach(), impl.Place{Reg: r, At: a})
			}
		}
	}
}

func TestStoreTurnsOnePlaceAlone(t *testing.T) {
	for _, m := range []impl.Mach{fullMach(), impl.MachNew([]int{3, 4}, 64, 64, nil)} {
		for _, p := range allPlaces() {
			for _, z := range []struct{ n, stored int }{
				{0, 0}, {1, 1}, {32767, 32767}, {32768, 32768}, {65535, 65535}, {65536, 0}, {65537, 1}, {-1, 65535}, {-2, 65534}, {-65535, 1},
				{-65536, 0}, {-65537, 65535}, {131071, 65535}, {1<<32 + 5, 5}, {math.MaxInt, 65535}, {math.MinInt, 0}, {math.MinInt + 1, 1},
			} {
				checkStore(t, m, p, z.n, z.stored)
			}
		}
	}
}

func TestWhatIsStoredIsLoaded(t *testing.T) {
	m := fullMach()
	for _, p := range allPlaces() {
		x, ok := impl.Store(m, p, 4711)
		if !ok || !impl.MachOk(x) {
			t.Fatal("no place", p)
		}
		for _, q := range allPlaces() {
			if q == p {
				checkLoad(t, x, q, 4711)
				continue
			}
			was, _ := impl.Load(m, q)
			checkLoad(t, x, q, was)
		}
	}
}

func TestStoresBehindEachOther(t *testing.T) {
	m := impl.MachNew(nil, 0, 0, nil)
	for i, p := range allPlaces() {
		x, ok := impl.Store(m, p, -i)
		if !ok {
			t.Fatal("no place", p)
		}
		m = x
	}
	for i, p := range allPlaces() {
		checkLoad(t, m, p, (65536-i)%65536)
	}
}

// What an operand leads to is stored and loaded there, in the machine as PlaceOf leaves it.
func TestStoreWhereAnOperandIs(t *testing.T) {
	m := machAt(map[int]int{100: 20, 200: 300, 198: 44, 220: 66, 98: 46, 122: 68}, 1, 200, 100)
	for mode := range 8 {
		for _, r := range []int{1, 7} {
			x, p, ok := impl.PlaceOf(m, impl.Opd{Mode: mode, Reg: r})
			if !ok {
				t.Fatal("no place", mode, r)
			}
			checkStore(t, x, p, -3, 65533)
		}
	}
}

// Where a machine has fewer registers or words than it should, those that it has are loaded and stored all the same.
func TestLoadAndStoreWhereRegistersAndWordsLack(t *testing.T) {
	for _, size := range []int{0, 1, 2, 6, 7} {
		m := fullMach()
		m.R = someWords(8)[:size]
		for r := range 8 {
			if r < size {
				checkLoad(t, m, inReg(r), m.R[r])
				checkStore(t, m, inReg(r), -7, 65529)
			} else {
				checkNothingIn(t, m, inReg(r))
			}
		}
		checkStore(t, m, atAddress(510), 65537, 1)
	}
	for _, size := range []int{0, 1, 2, 100, 255} {
		m := fullMach()
		m.Mem = someWords(256)[:size]
		for a := 0; a <= 510; a += 2 {
			if a/2 < size {
				checkLoad(t, m, atAddress(a), m.Mem[a/2])
				checkStore(t, m, atAddress(a), -7, 65529)
			} else {
				checkNothingIn(t, m, atAddress(a))
			}
		}
		checkStore(t, m, inReg(7), 65537, 1)
	}
	for _, p := range allPlaces() {
		checkNothingIn(t, impl.Mach{}, p)
	}
}

func TestLoadAndStoreOfMachinesThatAreNotRight(t *testing.T) {
	more := impl.Mach{Mem: someWords(300), R: someWords(12), In: someWords(60), Out: []int{-1}, Stop: 7}
	for _, p := range []impl.Place{inReg(0), inReg(7), atAddress(0), atAddress(510)} {
		checkStore(t, more, p, -1, 65535)
	}
	checkLoad(t, more, inReg(7), more.R[7])
	checkLoad(t, more, atAddress(510), more.Mem[255])
	for what, m := range wrongMachs() {
		if len(m.R) > 0 {
			checkLoad(t, m, inReg(0), m.R[0])
			checkStore(t, m, inReg(0), 65538, 2)
		}
		if len(m.Mem) > 0 {
			checkLoad(t, m, atAddress(6), m.Mem[3])
			checkStore(t, m, atAddress(6), 65538, 2)
		}
		if t.Failed() {
			t.Fatal(what)
		}
	}
}

// machWithRoom is a machine with a number behind each of its lists.
func machWithRoom() impl.Mach {
	m := machAt(map[int]int{100: 20, 200: 300, 198: 44, 220: 66}, 1, 200, 100)
	m.Mem, m.R = append(m.Mem, 11)[:256], append(m.R, 12)[:8]
	m.In, m.Out = append(m.In, 13)[:3], append(m.Out, 14)[:2]
	return m
}

// checkNewMemory wants answers that share no memory with m or each other, and m as it was, with what lies behind its lists.
func checkNewMemory(t *testing.T, what string, answer func(m impl.Mach) impl.Mach) {
	t.Helper()
	checkNewMemoryOf(t, what, machWithRoom, answer)
}

// checkNewMemoryOf wants start to make the same at each call, with machWithRoom's numbers behind its lists.
func checkNewMemoryOf(t *testing.T, what string, start func() impl.Mach, answer func(m impl.Mach) impl.Mach) {
	t.Helper()
	m, was := start(), start()
	x := answer(m)
	want := copyOfMach(x)
	if !sameMach(m, was) {
		t.Error("an argument is written:", what)
	}
	scratch(answer(m))
	if !sameMach(m, was) || !sameMach(x, want) {
		t.Error("an answer is shared:", what)
	}
	if m.Mem[:257][256] != 11 || m.R[:9][8] != 12 || m.In[:4][3] != 13 || m.Out[:3][2] != 14 {
		t.Error("written behind a list:", what)
	}
	scratch(m)
	if !sameMach(x, want) {
		t.Error("an argument is shared:", what)
	}
}

func TestPlacesAreNewMemory(t *testing.T) {
	for mode := range 9 {
		for r := range 9 {
			o := impl.Opd{Mode: mode, Reg: r}
			checkNewMemory(t, fmt.Sprint("PlaceOf ", o), func(m impl.Mach) impl.Mach {
				x, _, _ := impl.PlaceOf(m, o)
				return x
			})
		}
	}
	checkNewMemory(t, "PlaceOf of what is not MachOk", func(m impl.Mach) impl.Mach {
		m.Stop = 3
		x, _, _ := impl.PlaceOf(m, impl.Opd{Mode: 2, Reg: 1})
		return x
	})
	for _, p := range append(noPlaces(), inReg(0), inReg(7), atAddress(0), atAddress(510)) {
		checkNewMemory(t, fmt.Sprint("Store ", p), func(m impl.Mach) impl.Mach {
			x, _ := impl.Store(m, p, 5)
			return x
		})
	}
}

func TestLoadWritesNothing(t *testing.T) {
	m := machWithRoom()
	for _, p := range append(noPlaces(), allPlaces()...) {
		impl.Load(m, p)
	}
	if !sameMach(m, machWithRoom()) {
		t.Error(m)
	}
}

// A place is reached by a pointer: some function of the layer hands one out.
func TestAPlaceIsReachedByAPointer(t *testing.T) {
	_, files := programFiles(t)
	f := files["l06_addr.go"]
	if f == nil {
		t.Fatal("no l06_addr.go")
	}
	for _, d := range f.Decls {
		x, ok := d.(*ast.FuncDecl)
		if !ok || x.Type.Results == nil {
			continue
		}
		for _, r := range x.Type.Results.List {
			if _, ok := r.Type.(*ast.StarExpr); ok {
				return
			}
		}
	}
	t.Error("no function answers a pointer")
}
