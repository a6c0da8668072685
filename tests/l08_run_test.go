package tests

import (
	"fmt"
	"go/ast"
	"go/types"
	"math"
	"slices"
	"strings"
	"testing"

	"loop.example/g00329/impl"
)

// noCounts are numbers of Steps of which none is done.
var noCounts = []int{
	-1, -2, -2000, -2001, 2001, 2002, 4000, 65535, 65536, 67536, 1 << 32, 1<<32 + 1, 1<<32 + 2000, math.MinInt, math.MinInt + 1, math.MaxInt,
}

func wordsOfIns(l ...impl.Ins) []int {
	var words []int
	for _, x := range l {
		words = append(words, impl.Encode(x)...)
	}
	return words
}

// runMach has flags, words that come and words that are out of its own, so that one that is lost is seen.
func runMach(words []int) impl.Mach {
	m := impl.MachNew(words, 64, 64, []int{7, 0, 65535})
	m.Out = []int{9, 65535}
	setFlags(&m, 11)
	return m
}

// endless turns the register 1 and a word at each round, so that no two Steps leave it alike.
func endless() impl.Mach {
	return runMach(wordsOfIns(impl.Ins{Op: impl.OInc, Dst: r1}, impl.Ins{Op: impl.OAdd, Src: r1, Dst: absolute(300)}, impl.Ins{Op: impl.OBr, N: -4}))
}

// standing does last as its s-th Step, and has not stood ahead of that.
func standing(s int, last ...int) impl.Mach {
	var words []int
	if s > 1 && s%2 == 1 {
		s--
		words = wordsOfIns(impl.Ins{Op: impl.OInc, Dst: r1})
	}
	switch {
	case s == 2:
		words = append(words, wordsOfIns(impl.Ins{Op: impl.OInc, Dst: r1})...)
	case s > 2:
		rounds := impl.Ins{Op: impl.OMov, Src: number((s - 2) / 2), Dst: r2}
		words = append(words, wordsOfIns(rounds, impl.Ins{Op: impl.ODec, Dst: r2}, impl.Ins{Op: impl.OBne, N: -2})...)
	}
	return runMach(append(words, last...))
}

func haltingAt(s int) impl.Mach { return standing(s, 0) }

// faultingAt has turned much already when its last Step is found to be a Fault.
func faultingAt(s int) impl.Mach {
	return standing(s, wordsOfIns(impl.Ins{Op: impl.OMov, Src: impl.Opd{Mode: 2, Reg: 7, X: 5}, Dst: absolute(511)})...)
}

// sendingOut is a Fault at its 145-th Step: 48 words go out behind the 2 that are, in three Steps each, and one more would.
func sendingOut() impl.Mach {
	return runMach(wordsOfIns(impl.Ins{Op: impl.OEmt, N: 1}, impl.Ins{Op: impl.OInc}, impl.Ins{Op: impl.OBr, N: -3}))
}

// copyingOver sends out what comes until it is 65535, and halts then: its 2 words need 5 Steps each, and the last one 4.
func copyingOver() impl.Mach {
	return runMach(wordsOfIns(
		impl.Ins{Op: impl.OEmt, N: 2}, impl.Ins{Op: impl.OCmp, Src: impl.Opd{}, Dst: number(65535)}, impl.Ins{Op: impl.OBeq, N: 2},
		impl.Ins{Op: impl.OEmt, N: 1}, impl.Ins{Op: impl.OBr, N: -6}, impl.Ins{Op: impl.OHalt},
	))
}

// running are machines of each way to go on and to stand.
func running() map[string]impl.Mach {
	l := map[string]impl.Mach{
		"endless": endless(), "sending out": sendingOut(), "copying over": copyingOver(),
		"nothing but its own place": runMach(wordsOfIns(impl.Ins{Op: impl.OBr, N: -1})),
		"over the memory's end":     insAt(impl.Ins{Op: impl.OInc, Dst: r1}, 510),
		"calling itself":            runMach(wordsOfIns(impl.Ins{Op: impl.OJsr, N: 5, Dst: absolute(64)})),
		"7 is odd":                  insAt(impl.Ins{Op: impl.OJmp, Dst: absolute(401)}, 100),
		"the zero one":              {},
	}
	for _, s := range []int{1, 2, 3, 4, 17, 30} {
		l[fmt.Sprint("halting at ", s)] = haltingAt(s)
		l[fmt.Sprint("faulting at ", s)] = faultingAt(s)
	}
	for _, stop := range []int{impl.StHalt, impl.StFault} {
		m := endless()
		m.Stop = stop
		l[fmt.Sprint("Stop ", stop)] = m
	}
	return l
}

// statesOf are m, and what each of n Steps leaves; and behind how many of these Stop is not StRun first (n, where it never is).
func statesOf(m impl.Mach, n int) ([]impl.Mach, int) {
	l := []impl.Mach{copyOfMach(m)}
	stands := n
	for i := range n {
		if l[i].Stop != impl.StRun {
			stands = min(stands, i)
		}
		l = append(l, impl.Step(l[i]))
	}
	return l, stands
}

func checkRun(t *testing.T, what string, m impl.Mach, n int, want impl.Mach) {
	t.Helper()
	if got := impl.Run(m, n); !sameMach(got, want) {
		t.Errorf("Run of %s, %d: registers %v, flags %d, Stop %d, In %v, Out %v, want %v, %d, %d, %v, %v",
			what, n, got.R, impl.Flags(got), got.Stop, got.In, got.Out, want.R, impl.Flags(want), want.Stop, want.In, want.Out)
	}
}

func checkSteps(t *testing.T, what string, m impl.Mach, n, want int) {
	t.Helper()
	if got := impl.Steps(m, n); got != want {
		t.Errorf("Steps of %s, %d: %d, want %d", what, n, got, want)
	}
}

func TestRunIsStepNTimes(t *testing.T) {
	for what, m := range running() {
		states, stands := statesOf(m, 200)
		for n, want := range states {
			checkRun(t, what, m, n, want)
			checkSteps(t, what, m, n, min(n, stands))
		}
	}
}

func TestRunUpToItsBound(t *testing.T) {
	for what, m := range map[string]impl.Mach{
		"endless": endless(), "halting at 1999": haltingAt(1999), "halting at 2000": haltingAt(2000), "halting at 2001": haltingAt(2001),
		"faulting at 1999": faultingAt(1999), "faulting at 2000": faultingAt(2000), "faulting at 2001": faultingAt(2001),
	} {
		states, stands := statesOf(m, 2000)
		for _, n := range []int{0, 1, 2, 255, 256, 999, 1000, 1001, 1998, 1999, 2000} {
			checkRun(t, what, m, n, states[n])
			checkSteps(t, what, m, n, min(n, stands))
		}
	}
}

// A run of 2000 goes through all of them, as what is left in the machine tells.
func TestRunWrittenOut(t *testing.T) {
	m := endless()
	for _, z := range []struct{ n, one, word, next int }{
		{0, 0, 0, 64}, {1, 1, 0, 66}, {2, 1, 1, 70}, {3, 1, 1, 64}, {4, 2, 1, 66}, {5, 2, 3, 70}, {300, 100, 5050, 64}, {1999, 667, 666 * 667 / 2 % 65536, 66}, {2000, 667, 667 * 668 / 2 % 65536, 70},
	} {
		x := impl.Run(m, z.n)
		if x.R[1] != z.one || x.Mem[150] != z.word || x.R[7] != z.next || x.Stop != impl.StRun {
			t.Errorf("%d of an endless one: register 1 %d, word %d, 7 %d, Stop %d", z.n, x.R[1], x.Mem[150], x.R[7], x.Stop)
		}
	}
	x := impl.Run(sendingOut(), 2000)
	if x.Stop != impl.StFault || len(x.Out) != 50 || x.Out[2] != 0 || x.Out[49] != 47 || x.R[0] != 48 || x.R[7] != 64 {
		t.Error("50 are out:", x.Stop, x.Out, x.R)
	}
	x = impl.Run(copyingOver(), 2000)
	if x.Stop != impl.StHalt || !slices.Equal(x.Out, []int{9, 65535, 7, 0}) || len(x.In) != 0 {
		t.Error("copied over:", x.Stop, x.Out, x.In)
	}
}

func TestNoStepIsDoneOutsideTheBounds(t *testing.T) {
	for what, m := range running() {
		for _, n := range noCounts {
			checkRun(t, what, m, n, copyOfMach(m))
			checkSteps(t, what, m, n, 0)
		}
		checkRun(t, what, m, 0, copyOfMach(m))
		checkSteps(t, what, m, 0, 0)
	}
}

func TestMachinesThatStandStay(t *testing.T) {
	for _, s := range []int{1, 2, 3, 9, 150} {
		for stop, m := range map[int]impl.Mach{impl.StHalt: haltingAt(s), impl.StFault: faultingAt(s)} {
			what := fmt.Sprint("Stop ", stop, " at ", s)
			was := impl.Run(m, s-1)
			if was.Stop != impl.StRun {
				t.Error("stands too early:", what)
			}
			stood := impl.Run(m, s)
			want := copyOfMach(was)
			want.Stop = stop
			if stop == impl.StHalt {
				want.R[7] += 2
			}
			if !sameMach(stood, want) {
				t.Errorf("%s: registers %v, Stop %d, want %v", what, stood.R, stood.Stop, want.R)
			}
			for _, n := range []int{0, 1, 2, 50, 2000} {
				checkRun(t, what+", then", stood, n, copyOfMach(stood))
				checkSteps(t, what+", then", stood, n, 0)
			}
			for _, n := range []int{s + 1, s + 2, s + 100, 1999, 2000} {
				checkRun(t, what, m, n, stood)
			}
		}
	}
}

func TestStepsUntilItStands(t *testing.T) {
	for _, s := range []int{1, 2, 3, 4, 5, 10, 11, 99, 100, 1000, 1998, 1999, 2000} {
		for _, m := range []impl.Mach{haltingAt(s), faultingAt(s)} {
			what := fmt.Sprint("one that stands at ", s)
			for _, n := range []int{0, 1, 2, s - 1, s, s + 1, s + 2, 1999, 2000} {
				if n <= 2000 {
					checkSteps(t, what, m, n, min(n, s))
				} else {
					checkSteps(t, what, m, n, 0)
				}
			}
		}
	}
	for _, m := range []impl.Mach{haltingAt(2001), faultingAt(2001), endless()} {
		for _, n := range []int{0, 1, 2, 1999, 2000} {
			checkSteps(t, "one that goes on", m, n, n)
		}
	}
	checkSteps(t, "sending out", sendingOut(), 2000, 145)
	checkSteps(t, "sending out", sendingOut(), 145, 145)
	checkSteps(t, "sending out", sendingOut(), 144, 144)
	checkSteps(t, "copying over", copyingOver(), 2000, 14)
}

// Step of a machine that is not MachOk is that machine: it never comes to stand, so that all Steps of one with StRun are done.
func TestRunsOfMachinesThatAreNotRight(t *testing.T) {
	for what, m := range wrongMachs() {
		if len(m.Mem) > 50 {
			m.Mem[50] = impl.Encode(impl.Ins{Op: impl.OInc, Dst: r2})[0]
		}
		for _, n := range []int{0, 1, 2, 7, 2000, -1, 2001, math.MinInt, math.MaxInt} {
			checkRun(t, what, m, n, copyOfMach(m))
			want := 0
			if m.Stop == impl.StRun && n >= 0 && n <= 2000 {
				want = n
			}
			checkSteps(t, what, m, n, want)
		}
		for _, stop := range []int{impl.StHalt, impl.StFault, 3, -1, math.MaxInt} {
			m.Stop = stop
			checkRun(t, what, m, 9, copyOfMach(m))
			checkSteps(t, what, m, 9, 0)
		}
	}
}

// checkParts wants that a run of both together is one of a and then of b.
func checkParts(t *testing.T, what string, m impl.Mach, a, b int) {
	t.Helper()
	first := impl.Run(m, a)
	checkRun(t, fmt.Sprintf("%s, behind %d", what, a), first, b, impl.Run(m, a+b))
	if got, want := impl.Steps(m, a)+impl.Steps(first, b), impl.Steps(m, a+b); got != want {
		t.Errorf("Steps of %s, %d and then %d: %d, want %d", what, a, b, got, want)
	}
}

func TestARunInTwoPartsIsOneRun(t *testing.T) {
	for what, m := range running() {
		for a := range 41 {
			checkParts(t, what, m, a, 40-a)
			checkParts(t, what, m, a, 20)
			checkParts(t, what, m, a, 0)
			checkParts(t, what, m, 0, a)
		}
	}
	for what, m := range map[string]impl.Mach{
		"endless": endless(), "sending out": sendingOut(), "halting at 1000": haltingAt(1000), "faulting at 1000": faultingAt(1000), "faulting at 2000": faultingAt(2000),
	} {
		for _, a := range []int{0, 1, 2, 143, 144, 145, 146, 999, 1000, 1001, 1998, 1999, 2000} {
			checkParts(t, what, m, a, 2000-a)
			checkParts(t, what, m, a, min(2000-a, 500))
		}
	}
}

func TestARunInManyParts(t *testing.T) {
	for what, m := range running() {
		x, sum, steps := m, 0, 0
		for n := range 20 {
			steps += impl.Steps(x, n)
			x = impl.Run(x, n)
			sum += n
		}
		checkRun(t, what, m, sum, x)
		checkSteps(t, what, m, sum, steps)
	}
	states, _ := statesOf(endless(), 4000)
	x := impl.Run(impl.Run(endless(), 2000), 2000)
	if !sameMach(x, states[4000]) {
		t.Error("twice 2000:", x.R, states[4000].R)
	}
}

// A part of which none is done leaves the other one whole.
func TestPartsOutsideTheBounds(t *testing.T) {
	m := endless()
	for _, n := range noCounts {
		checkRun(t, "none, then", impl.Run(m, n), 10, impl.Run(m, 10))
		checkRun(t, "10, then none of", impl.Run(m, 10), n, impl.Run(m, 10))
	}
}

// wantRun goes by wantStep, which goes by the document's words.
func wantRun(m impl.Mach, n int) (impl.Mach, int) {
	for i := range n {
		if m.Stop != impl.StRun {
			return m, i
		}
		x, ok := wantStep(m)
		if !ok {
			x = copyOfMach(m)
			x.Stop = impl.StFault
		}
		m = x
	}
	return m, n
}

func TestRunsOfManyMachines(t *testing.T) {
	seed := uint32(8)
	next := func(n int) int {
		seed = seed*1664525 + 1013904223
		return int(seed>>8) % n
	}
	var stood [3]int
	long := 0
	for round := range 1500 {
		m := runMach(nil)
		for at := 0; at < 250; {
			x := anyIns(1+next(23), next)
			if next(2) == 0 {
				// One that is never a Fault, so that not all of them are short.
				x = impl.Ins{Op: impl.OClr + next(7), Dst: impl.Opd{Reg: next(6)}}
			}
			at += copy(m.Mem[at:], impl.Encode(x))
		}
		for i := range 7 {
			m.R[i] = 100 + next(200)*2
		}
		n := next(60)
		want, steps := wantRun(m, n)
		what := fmt.Sprint("round ", round)
		checkRun(t, what, m, n, want)
		checkSteps(t, what, m, n, steps)
		a := next(n + 1)
		checkParts(t, what, m, a, n-a)
		stood[want.Stop]++
		if steps > 5 {
			long++
		}
	}
	if min(stood[0], stood[1], stood[2]) < 50 || long < 100 {
		t.Error("of one kind alone:", stood, long)
	}
}

func checkOutcome(t *testing.T, m impl.Mach, want string) {
	t.Helper()
	was := copyOfMach(m)
	if got := impl.Outcome(m); got != want {
		t.Errorf("Outcome of %v, Stop %d: %q, want %q", m.Out, m.Stop, got, want)
	}
	if !sameMach(m, was) {
		t.Errorf("Outcome wrote into %v", m.Out)
	}
}

func TestOutcomeOfEachStop(t *testing.T) {
	for stop, word := range map[int]string{impl.StRun: "run", impl.StHalt: "halt", impl.StFault: "fault"} {
		for _, z := range []struct {
			out  []int
			want string
		}{
			{nil, ""}, {[]int{}, ""}, {[]int{0}, "0 "}, {[]int{1}, "1 "}, {[]int{7}, "7 "}, {[]int{8}, "10 "}, {[]int{9}, "11 "}, {[]int{64}, "100 "}, {[]int{32767}, "77777 "},
			{[]int{32768}, "100000 "}, {[]int{65535}, "177777 "}, {[]int{0, 0}, "0 0 "}, {[]int{3, 2, 1}, "3 2 1 "}, {[]int{65535, 0, 65535}, "177777 0 177777 "},
			{[]int{0, 65535, 8, 8}, "0 177777 10 10 "},
		} {
			m := endless()
			m.Out, m.Stop = z.out, stop
			checkOutcome(t, m, z.want+word)
		}
		m := endless()
		m.Out, m.Stop = make([]int, 50), stop
		checkOutcome(t, m, strings.Repeat("0 ", 50)+word)
	}
}

// Nothing but Out and Stop is asked, and a Stop that is none of the three is a fault.
func TestOutcomeOfMachinesThatAreNotRight(t *testing.T) {
	checkOutcome(t, impl.Mach{}, "run")
	checkOutcome(t, impl.Mach{Stop: impl.StHalt}, "halt")
	checkOutcome(t, impl.Mach{Out: []int{8}, R: []int{-1}, Mem: []int{65536}, Stop: impl.StFault}, "10 fault")
	for _, stop := range []int{-1, -2, 3, 4, 7, 1 << 32, 1<<32 + 1, math.MinInt, math.MaxInt} {
		checkOutcome(t, impl.Mach{Stop: stop}, "fault")
		checkOutcome(t, impl.Mach{Out: []int{8, 65535}, Stop: stop}, "10 177777 fault")
	}
	checkOutcome(t, impl.Mach{Out: make([]int, 51)}, strings.Repeat("0 ", 51)+"run")
	checkOutcome(t, impl.Mach{Out: []int{-1, 65536, 65537, -65536, math.MaxInt, math.MinInt}, Stop: impl.StHalt}, "177777 0 1 0 177777 0 halt")
}

func TestOutcomeOfRuns(t *testing.T) {
	var sent strings.Builder
	sent.WriteString("11 177777 ")
	for n := range 48 {
		fmt.Fprintf(&sent, "%o ", n)
	}
	for n, want := range map[int]string{0: "11 177777 run", 1: "11 177777 0 run", 3: "11 177777 0 run", 4: "11 177777 0 1 run", 144: sent.String() + "run", 145: sent.String() + "fault", 2000: sent.String() + "fault"} {
		checkOutcome(t, impl.Run(sendingOut(), n), want)
	}
	checkOutcome(t, impl.Run(copyingOver(), 100), "11 177777 7 0 halt")
	checkOutcome(t, impl.Run(endless(), 2000), "11 177777 run")
}

func TestRunIsNewMemory(t *testing.T) {
	for _, x := range []impl.Ins{{Op: impl.OBr, N: -1}, {Op: impl.OMov, Src: r1, Dst: absolute(300)}, {Op: impl.OHalt}, {Op: impl.OEmt, N: 1}, {Op: impl.OEmt, N: 2}, {Op: impl.OEmt, N: 3}} {
		start := func() impl.Mach {
			m := machWithRoom()
			copy(m.Mem[50:], impl.Encode(x))
			return m
		}
		for _, n := range []int{0, 1, 2, 50, 2000, -1, 2001} {
			for _, stop := range []int{impl.StRun, impl.StHalt, impl.StFault, 3} {
				checkNewMemoryOf(t, fmt.Sprint("Run of ", x, " ", n, " ", stop), start, func(m impl.Mach) impl.Mach {
					m.Stop = stop
					return impl.Run(m, n)
				})
			}
		}
	}
}

// Two runs that go on from one machine do not write into each other's Out.
func TestRunsOfOneBeginningAreApart(t *testing.T) {
	begun := impl.Run(sendingOut(), 6)
	one, other := copyOfMach(begun), begun
	one.Out = begun.Out
	one.R[0], other.R[0] = 111, 222
	x := impl.Run(one, 1)
	y := impl.Run(other, 1)
	if !slices.Equal(x.Out, []int{9, 65535, 0, 1, 111}) || !slices.Equal(y.Out, []int{9, 65535, 0, 1, 222}) {
		t.Error(x.Out, y.Out)
	}
}

func TestCountingAndTellingWriteNothing(t *testing.T) {
	for _, x := range []impl.Ins{{Op: impl.OEmt, N: 1}, {Op: impl.OEmt, N: 2}, {Op: impl.OClr, Dst: absolute(300)}} {
		m, was := machWithRoom(), machWithRoom()
		copy(m.Mem[50:], impl.Encode(x))
		copy(was.Mem[50:], impl.Encode(x))
		for _, n := range []int{0, 1, 2, 2000, -1, 2001} {
			impl.Steps(m, n)
			impl.Outcome(m)
		}
		if !sameMach(m, was) || m.Mem[:257][256] != 11 || m.R[:9][8] != 12 || m.In[:4][3] != 13 || m.Out[:3][2] != 14 {
			t.Error("an argument is written:", x)
		}
	}
}

// Steps are a range over an integer, in which Step is done.
func TestStepsAreARangeOverAnInteger(t *testing.T) {
	info := &types.Info{Types: map[ast.Expr]types.TypeAndValue{}}
	f := typedFiles(t, info)["l08_run.go"]
	if f == nil {
		t.Fatal("no l08_run.go")
	}
	found := false
	ast.Inspect(f, func(n ast.Node) bool {
		r, ok := n.(*ast.RangeStmt)
		if !ok {
			return true
		}
		b, ok := info.Types[r.X].Type.Underlying().(*types.Basic)
		found = found || ok && b.Info()&types.IsInteger != 0 && callsStep(r.Body)
		return true
	})
	if !found {
		t.Error("no range over an integer does Step")
	}
}

func callsStep(body ast.Node) bool {
	found := false
	ast.Inspect(body, func(n ast.Node) bool {
		if c, ok := n.(*ast.CallExpr); ok {
			id, ok := c.Fun.(*ast.Ident)
			found = found || ok && id.Name == "Step"
		}
		return true
	})
	return found
}
