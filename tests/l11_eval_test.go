package tests

import (
	"fmt"
	"go/ast"
	"math"
	"slices"
	"strings"
	"testing"

	"loop.example/g00329/impl"
)

// turnWords are those where what is worked out turns.
var turnWords = []int{0, 1, 2, 3, 7, 8, 255, 256, 257, 32767, 32768, 32769, 65533, 65534, 65535}

// twoWords works in sixteen bits, which wrap by themselves: apart from the program's Wrap.
func twoWords(k int, a, b int) (int, bool) {
	x, y := uint16(a), uint16(b)
	switch k {
	case impl.XAdd:
		return int(x + y), true
	case impl.XSub:
		return int(x - y), true
	case impl.XMul:
		return int(x * y), true
	case impl.XDiv:
		if y == 0 {
			return 0, false
		}
		return int(x / y), true
	case impl.XAnd:
		return int(x & y), true
	}
	return int(x | y), true
}

func isNum(e impl.Expr) bool { return e.K == impl.XNum }

// isSum tells a term with a word behind it.
func isSum(e impl.Expr) bool { return e.K == impl.XAdd && isNum(e.L[1]) }

func plus(e impl.Expr, n int) impl.Expr { return pairExpr(impl.XAdd, e, numExpr(n)) }

func minus(e impl.Expr, n int) impl.Expr { return pairExpr(impl.XSub, e, numExpr(n)) }

// wantFold goes rule by rule, as the document tells them, of what is ExprOk.
func wantFold(e impl.Expr) impl.Expr {
	e = copyExpr(e)
	for i := range e.L {
		e.L[i] = wantFold(e.L[i])
	}
	if e.K == impl.XNeg && isNum(e.L[0]) {
		return numExpr(int(-uint16(e.L[0].N)))
	}
	if len(e.L) < 2 {
		return e
	}
	if isNum(e.L[0]) && isNum(e.L[1]) {
		if n, ok := twoWords(e.K, e.L[0].N, e.L[1].N); ok {
			return numExpr(n)
		}
	}
	if e.K == impl.XAdd && isNum(e.L[0]) {
		e = pairExpr(impl.XAdd, e.L[1], e.L[0])
	}
	if e.K == impl.XSub && isNum(e.L[1]) {
		e = plus(e.L[0], int(-uint16(e.L[1].N)))
	}
	if isSum(e) && isSum(e.L[0]) {
		e = plus(e.L[0].L[0], int(uint16(e.L[0].L[1].N)+uint16(e.L[1].N)))
	}
	if isSum(e) && e.L[1].N == 0 {
		return e.L[0]
	}
	if e.K == impl.XSub {
		a, n := wantCut(e.L[0])
		b, m := wantCut(e.L[1])
		if a.K == impl.XSect && b.K == impl.XSect && a.N == b.N {
			return numExpr(int(uint16(n) - uint16(m)))
		}
	}
	return e
}

func wantCut(e impl.Expr) (impl.Expr, int) {
	if isSum(e) {
		return e.L[0], e.L[1].N
	}
	return e, 0
}

// firstAt is where a name is first, -1 if it is not.
func firstAt(names []string, s string) int { return slices.Index(names, s) }

// wantWorth is of what is ExprOk.
func wantWorth(e impl.Expr, bases []int, names []string, vals []int) (int, bool) {
	switch e.K {
	case impl.XNum:
		return e.N, true
	case impl.XSect:
		if e.N < len(bases) {
			return int(uint16(bases[e.N])), true
		}
	case impl.XGlob:
		if at := firstAt(names, e.S); at >= 0 && at < len(vals) {
			return int(uint16(vals[at])), true
		}
	case impl.XNeg:
		if n, ok := wantWorth(e.L[0], bases, names, vals); ok {
			return int(-uint16(n)), true
		}
	}
	if len(e.L) < 2 {
		return 0, false
	}
	n, ok := wantWorth(e.L[0], bases, names, vals)
	if !ok {
		return 0, false
	}
	m, ok := wantWorth(e.L[1], bases, names, vals)
	if !ok {
		return 0, false
	}
	return twoWords(e.K, n, m)
}

// wantPut is of what is right, and may answer what is too deep.
func wantPut(e, here impl.Expr, names []string, vals []impl.Expr) impl.Expr {
	switch e.K {
	case impl.XHere:
		return copyExpr(here)
	case impl.XSym:
		if at := firstAt(names, e.S); at >= 0 {
			return copyExpr(vals[at])
		}
	}
	e = copyExpr(e)
	for i := range e.L {
		e.L[i] = wantPut(e.L[i], here, names, vals)
	}
	return e
}

func deepOf(e impl.Expr) int {
	deep := 0
	for _, x := range e.L {
		deep = max(deep, deepOf(x))
	}
	return deep + 1
}

func checkFold(t *testing.T, e, want impl.Expr) {
	t.Helper()
	got := impl.Fold(e)
	if !sameTerm(got, want) {
		t.Errorf("Fold of %v: %v, want %v", e, got, want)
		return
	}
	if again := impl.Fold(got); !sameTerm(again, want) {
		t.Errorf("Fold of %v twice: %v, want %v", e, again, want)
	}
	n, ok := impl.Known(e)
	if isNum(want) && impl.ExprOk(want) {
		if n != want.N || !ok {
			t.Errorf("Known of %v: %v, %v, want %v", e, n, ok, want.N)
		}
	} else if n != 0 || ok {
		t.Errorf("Known of %v: %v, %v", e, n, ok)
	}
}

func checkStays(t *testing.T, e impl.Expr) {
	t.Helper()
	checkFold(t, e, e)
}

func checkWorth(t *testing.T, e impl.Expr, bases []int, names []string, vals []int, want int, ok bool) {
	t.Helper()
	n, got := impl.Worth(e, bases, names, vals)
	if n != want || got != ok {
		t.Errorf("Worth of %v of %v, %v, %v: %v, %v, want %v, %v", e, bases, names, vals, n, got, want, ok)
	}
}

func checkPut(t *testing.T, e, here impl.Expr, names []string, vals []impl.Expr, want impl.Expr) {
	t.Helper()
	if got := impl.Put(e, here, names, vals); !sameTerm(got, want) {
		t.Errorf("Put into %v of %v, %v, %v: %v, want %v", e, here, names, vals, got, want)
	}
}

func checkNoPut(t *testing.T, e, here impl.Expr, names []string, vals []impl.Expr) {
	t.Helper()
	checkPut(t, e, here, names, vals, impl.Expr{})
}

func TestFoldOfWordsAlone(t *testing.T) {
	for _, k := range pairKinds {
		for _, a := range turnWords {
			for _, b := range turnWords {
				e := pairExpr(k, numExpr(a), numExpr(b))
				if n, ok := twoWords(k, a, b); ok {
					checkFold(t, e, numExpr(n))
					checkWorth(t, e, nil, nil, nil, n, true)
				} else {
					checkStays(t, e)
					checkWorth(t, e, nil, nil, nil, 0, false)
				}
			}
		}
	}
	for n := range 65536 {
		if x := impl.Fold(negExpr(numExpr(n))); !sameTerm(x, numExpr((65536-n)%65536)) {
			t.Errorf("Fold of minus %d: %v", n, x)
		}
	}
}

// The same, written out.
func TestFoldOfWordsWrittenOut(t *testing.T) {
	for _, z := range []struct{ k, a, b, want int }{
		{impl.XAdd, 5, 65535, 4}, {impl.XAdd, 65535, 1, 0}, {impl.XAdd, 65535, 65535, 65534}, {impl.XAdd, 32768, 32768, 0}, {impl.XAdd, 0, 0, 0},
		{impl.XSub, 0, 1, 65535}, {impl.XSub, 0, 65535, 1}, {impl.XSub, 1, 32768, 32769}, {impl.XSub, 65535, 65535, 0}, {impl.XSub, 5, 0, 5},
		{impl.XMul, 65535, 65535, 1}, {impl.XMul, 32768, 2, 0}, {impl.XMul, 256, 256, 0}, {impl.XMul, 257, 255, 65535}, {impl.XMul, 0, 65535, 0},
		{impl.XDiv, 9, 2, 4}, {impl.XDiv, 65535, 2, 32767}, {impl.XDiv, 65535, 65534, 1}, {impl.XDiv, 1, 65535, 0}, {impl.XDiv, 0, 1, 0}, {impl.XDiv, 32768, 32767, 1}, {impl.XDiv, 7, 1, 7},
		{impl.XAnd, 12, 10, 8}, {impl.XAnd, 65535, 32768, 32768}, {impl.XAnd, 0, 65535, 0},
		{impl.XOr, 12, 10, 14}, {impl.XOr, 32768, 1, 32769}, {impl.XOr, 0, 0, 0},
	} {
		checkFold(t, pairExpr(z.k, numExpr(z.a), numExpr(z.b)), numExpr(z.want))
	}
	for _, n := range turnWords {
		checkStays(t, pairExpr(impl.XDiv, numExpr(n), numExpr(0)))
	}
}

// unknowns are terms without words that stay as they are.
func unknowns() []impl.Expr {
	s, g := sectExpr(1), globExpr("g")
	return []impl.Expr{
		s, g, symExpr("a"), hereExpr, negExpr(s), negExpr(hereExpr), pairExpr(impl.XAdd, s, g), pairExpr(impl.XAdd, g, s), pairExpr(impl.XSub, s, g), pairExpr(impl.XSub, g, g),
		pairExpr(impl.XMul, s, s), pairExpr(impl.XDiv, g, g), pairExpr(impl.XAnd, hereExpr, hereExpr), pairExpr(impl.XOr, symExpr("a"), symExpr("a")),
		pairExpr(impl.XMul, g, numExpr(0)), pairExpr(impl.XMul, numExpr(1), g), pairExpr(impl.XDiv, g, numExpr(0)), pairExpr(impl.XDiv, numExpr(0), g), pairExpr(impl.XAnd, g, numExpr(0)), pairExpr(impl.XOr, numExpr(0), g),
		pairExpr(impl.XDiv, numExpr(9), numExpr(0)), pairExpr(impl.XDiv, numExpr(0), numExpr(0)), pairExpr(impl.XSub, numExpr(5), g), pairExpr(impl.XSub, numExpr(0), s),
		negExpr(negExpr(g)), negExpr(plus(g, 1)), pairExpr(impl.XAdd, s, plus(g, 1)), pairExpr(impl.XAdd, plus(g, 1), s), pairExpr(impl.XAdd, plus(s, 1), plus(s, 65535)),
	}
}

func TestTermsThatStay(t *testing.T) {
	for _, e := range unknowns() {
		checkStays(t, e)
	}
	for n := range 10 {
		checkStays(t, sectExpr(n))
	}
	for _, n := range turnWords {
		checkStays(t, numExpr(n))
	}
	for _, k := range pairKinds {
		for _, a := range unknowns() {
			b := symExpr("b")
			checkStays(t, pairExpr(k, a, b))
			checkStays(t, pairExpr(k, b, a))
		}
	}
}

func TestFoldOfATermAndAWord(t *testing.T) {
	for _, e := range unknowns() {
		for _, n := range turnWords {
			back := (65536 - n) % 65536
			want, less := plus(e, n), plus(e, back)
			if n == 0 {
				want, less = e, e
			}
			checkFold(t, pairExpr(impl.XAdd, numExpr(n), e), want)
			checkFold(t, plus(e, n), want)
			checkFold(t, minus(e, n), less)
			checkStays(t, pairExpr(impl.XSub, numExpr(n), e))
			for _, k := range []int{impl.XMul, impl.XDiv, impl.XAnd, impl.XOr} {
				checkStays(t, pairExpr(k, e, numExpr(n)))
				checkStays(t, pairExpr(k, numExpr(n), e))
			}
		}
	}
	g := globExpr("g")
	checkFold(t, minus(g, 5), plus(g, 65531))
	checkFold(t, minus(g, 65535), plus(g, 1))
	checkFold(t, minus(g, 1), plus(g, 65535))
	checkFold(t, minus(g, 32768), plus(g, 32768))
	checkFold(t, minus(g, 0), g)
}

func TestFoldOfATermAndTwoWords(t *testing.T) {
	for _, e := range unknowns() {
		for _, a := range turnWords {
			for _, b := range turnWords {
				sum := func(n int) impl.Expr {
					if n = n & 65535; n == 0 {
						return e
					}
					return plus(e, n)
				}
				ahead := pairExpr(impl.XAdd, numExpr(a), e)
				checkFold(t, plus(plus(e, a), b), sum(a+b))
				checkFold(t, plus(ahead, b), sum(a+b))
				checkFold(t, pairExpr(impl.XAdd, numExpr(b), plus(e, a)), sum(a+b))
				checkFold(t, pairExpr(impl.XAdd, numExpr(b), ahead), sum(a+b))
				checkFold(t, plus(minus(e, a), b), sum(b-a))
				checkFold(t, minus(plus(e, a), b), sum(a-b))
				checkFold(t, minus(ahead, b), sum(a-b))
				checkFold(t, minus(minus(e, a), b), sum(-a-b))
				checkFold(t, pairExpr(impl.XAdd, numExpr(b), minus(e, a)), sum(b-a))
			}
		}
	}
}

// The words may be folded themselves, ahead.
func TestPartsAreFoldedFirst(t *testing.T) {
	s, g := sectExpr(0), globExpr("g")
	three := pairExpr(impl.XDiv, numExpr(10), numExpr(3))
	none := pairExpr(impl.XSub, numExpr(7), numExpr(7))
	apart := pairExpr(impl.XSub, plus(s, 8), plus(s, 3))
	checkFold(t, pairExpr(impl.XAdd, three, g), plus(g, 3))
	checkFold(t, pairExpr(impl.XAdd, g, three), plus(g, 3))
	checkFold(t, pairExpr(impl.XSub, g, three), plus(g, 65533))
	checkFold(t, pairExpr(impl.XAdd, g, none), g)
	checkFold(t, pairExpr(impl.XAdd, none, g), g)
	checkFold(t, pairExpr(impl.XSub, g, none), g)
	checkFold(t, pairExpr(impl.XSub, none, g), pairExpr(impl.XSub, numExpr(0), g))
	checkFold(t, pairExpr(impl.XMul, apart, three), numExpr(15))
	checkFold(t, negExpr(apart), numExpr(65531))
	checkFold(t, pairExpr(impl.XDiv, three, none), pairExpr(impl.XDiv, numExpr(3), numExpr(0)))
	checkFold(t, pairExpr(impl.XDiv, g, none), pairExpr(impl.XDiv, g, numExpr(0)))
	checkFold(t, plus(pairExpr(impl.XDiv, three, none), 4), plus(pairExpr(impl.XDiv, numExpr(3), numExpr(0)), 4))
	checkFold(t, pairExpr(impl.XAdd, apart, pairExpr(impl.XAdd, apart, g)), plus(g, 10))
	checkFold(t, pairExpr(impl.XSub, pairExpr(impl.XSub, pairExpr(impl.XAdd, numExpr(3), s), numExpr(1)), s), numExpr(2))
	checkFold(t, pairExpr(impl.XSub, plus(minus(s, 6), 6), s), numExpr(0))
	checkFold(t, pairExpr(impl.XAdd, pairExpr(impl.XSub, s, s), g), g)
	checkFold(t, pairExpr(impl.XSub, pairExpr(impl.XSub, s, s), g), pairExpr(impl.XSub, numExpr(0), g))
	// A word stands behind a term, though not right within the sum: it is not gone for.
	checkStays(t, pairExpr(impl.XAdd, plus(g, 1), s))
	checkStays(t, pairExpr(impl.XAdd, s, plus(g, 1)))
	checkStays(t, plus(pairExpr(impl.XAdd, plus(g, 1), s), 1))
	checkStays(t, plus(pairExpr(impl.XAdd, s, plus(g, 65535)), 1))
	checkStays(t, pairExpr(impl.XSub, g, plus(g, 1)))
}

func TestFoldOfOneSectionLessAnother(t *testing.T) {
	for _, n := range []int{0, 1, 5, 9} {
		s := sectExpr(n)
		checkFold(t, pairExpr(impl.XSub, s, s), numExpr(0))
		for _, a := range turnWords {
			checkFold(t, pairExpr(impl.XSub, plus(s, a), s), numExpr(a))
			checkFold(t, pairExpr(impl.XSub, s, plus(s, a)), numExpr((65536-a)%65536))
			for _, b := range turnWords {
				checkFold(t, pairExpr(impl.XSub, plus(s, a), plus(s, b)), numExpr((65536+a-b)%65536))
				checkFold(t, pairExpr(impl.XSub, minus(s, a), plus(s, b)), numExpr((2*65536-a-b)%65536))
				checkFold(t, pairExpr(impl.XSub, pairExpr(impl.XAdd, numExpr(a), s), minus(s, b)), numExpr((a+b)%65536))
			}
		}
		for m := range 10 {
			if m == n {
				continue
			}
			other := sectExpr(m)
			checkStays(t, pairExpr(impl.XSub, s, other))
			checkStays(t, pairExpr(impl.XSub, plus(s, 8), other))
			checkStays(t, pairExpr(impl.XSub, s, plus(other, 8)))
			checkStays(t, pairExpr(impl.XSub, plus(s, 8), plus(other, 8)))
		}
		for _, k := range []int{impl.XAdd, impl.XMul, impl.XDiv, impl.XAnd, impl.XOr} {
			checkStays(t, pairExpr(k, s, s))
			checkStays(t, pairExpr(k, plus(s, 8), plus(s, 3)))
		}
	}
	// Sections alone, and not deeper within: all others stay, though they are the same.
	s := sectExpr(0)
	for _, e := range []impl.Expr{globExpr("g"), symExpr("a"), hereExpr, negExpr(s), pairExpr(impl.XAdd, s, s), pairExpr(impl.XMul, s, numExpr(1)), pairExpr(impl.XSub, numExpr(0), s), plus(negExpr(s), 1), plus(globExpr("g"), 1)} {
		checkStays(t, pairExpr(impl.XSub, e, e))
		checkStays(t, pairExpr(impl.XSub, s, e))
		checkStays(t, pairExpr(impl.XSub, e, s))
		checkStays(t, pairExpr(impl.XSub, plus(s, 2), e))
		checkStays(t, pairExpr(impl.XSub, e, plus(s, 2)))
	}
}

// ruleTerms has a term for each rule alone, and what it folds to.
func ruleTerms() [][2]impl.Expr {
	s, g := sectExpr(1), globExpr("g")
	l := [][2]impl.Expr{
		{negExpr(numExpr(1)), numExpr(65535)},
		{pairExpr(impl.XAdd, numExpr(5), s), plus(s, 5)},
		{minus(g, 5), plus(g, 65531)},
		{plus(plus(g, 5), 6), plus(g, 11)},
		{plus(plus(g, 5), 65531), g},
		{plus(g, 0), g},
		{pairExpr(impl.XAdd, numExpr(0), g), g},
		{minus(g, 0), g},
		{pairExpr(impl.XSub, s, s), numExpr(0)},
		{pairExpr(impl.XSub, plus(s, 8), s), numExpr(8)},
		{pairExpr(impl.XSub, s, plus(s, 8)), numExpr(65528)},
		{pairExpr(impl.XSub, plus(s, 8), plus(s, 3)), numExpr(5)},
	}
	for _, k := range pairKinds {
		n, _ := twoWords(k, 12, 10)
		l = append(l, [2]impl.Expr{pairExpr(k, numExpr(12), numExpr(10)), numExpr(n)})
	}
	return l
}

func TestRulesWithinOtherTerms(t *testing.T) {
	b := symExpr("b")
	for _, z := range ruleTerms() {
		checkFold(t, z[0], z[1])
		for _, k := range []int{impl.XMul, impl.XDiv, impl.XAnd, impl.XOr} {
			first, second := z, z
			for range 3 {
				for i := range 2 {
					first[i] = pairExpr(k, first[i], b)
					second[i] = pairExpr(k, b, second[i])
				}
				checkFold(t, first[0], first[1])
				checkFold(t, second[0], second[1])
			}
		}
		for _, w := range wrappers() {
			for times := range 4 {
				e := within(z[0], w, times)
				checkFold(t, e, wantFold(e))
				checkFold(t, within(z[1], w, times), wantFold(e))
			}
		}
		for _, y := range ruleTerms() {
			for _, k := range pairKinds {
				e := pairExpr(k, z[0], y[0])
				checkFold(t, e, wantFold(e))
				checkFold(t, pairExpr(k, z[1], y[1]), wantFold(e))
			}
		}
	}
}

func TestFoldSixDeep(t *testing.T) {
	s, g := sectExpr(2), globExpr("g")
	up, down, turns, both := g, g, g, s
	for n := 1; n <= 5; n++ {
		up = plus(up, n)
		down = minus(down, n)
		turns = pairExpr(impl.XAdd, numExpr(n), turns)
		if n < 5 {
			both = plus(both, n)
		}
	}
	checkFold(t, up, plus(g, 15))
	checkFold(t, down, plus(g, 65536-15))
	checkFold(t, turns, plus(g, 15))
	checkFold(t, pairExpr(impl.XSub, both, both), numExpr(0))
	checkFold(t, pairExpr(impl.XSub, both, s), numExpr(10))
	checkFold(t, within(numExpr(1), wrapper{"", negExpr}, 5), numExpr(65535))
	checkFold(t, within(numExpr(1), wrapper{"", negExpr}, 4), numExpr(1))
	checkFold(t, fullTree(6, func() impl.Expr { return numExpr(1) }), wantFold(fullTree(6, func() impl.Expr { return numExpr(1) })))
	// One deeper it is not right, and stays.
	for _, e := range []impl.Expr{plus(up, 6), minus(down, 6), pairExpr(impl.XAdd, numExpr(6), turns), within(numExpr(1), wrapper{"", negExpr}, 6), fullTree(7, func() impl.Expr { return numExpr(1) })} {
		if impl.ExprOk(e) {
			t.Error("right:", e)
		}
		checkStays(t, e)
		checkWorth(t, e, []int{0, 0, 0}, []string{"g"}, []int{0}, 0, false)
	}
}

// smallTerms are all of at most so deep over some leaves.
func smallTerms(deep int, leaves []impl.Expr) []impl.Expr {
	if deep == 1 {
		return leaves
	}
	less := smallTerms(deep-1, leaves)
	l := slices.Clone(leaves)
	for _, a := range less {
		l = append(l, negExpr(a))
		for _, k := range pairKinds {
			for _, b := range less {
				l = append(l, pairExpr(k, a, b))
			}
		}
	}
	return l
}

// Every term of at most three deep over a few leaves is folded by the rules, once for all, and worth the same.
func TestFoldOfAllSmallTerms(t *testing.T) {
	leaves := []impl.Expr{numExpr(0), numExpr(65535), numExpr(3), sectExpr(0), sectExpr(1)}
	for _, e := range smallTerms(3, leaves) {
		checkFold(t, e, wantFold(e))
		checkWorthStays(t, e, []int{6, 65533}, nil, nil)
	}
	for _, e := range smallTerms(2, append(allLeaves(), numExpr(2))) {
		checkFold(t, e, wantFold(e))
		checkWorthStays(t, e, []int{6, 65533}, []string{"sixlet", "a"}, []int{-1, 4})
	}
}

// checkWorthStays wants that e is worth what it is, and, where that is something, the same folded.
func checkWorthStays(t *testing.T, e impl.Expr, bases []int, names []string, vals []int) {
	t.Helper()
	n, ok := wantWorth(e, bases, names, vals)
	checkWorth(t, e, bases, names, vals, n, ok)
	if ok {
		checkWorth(t, impl.Fold(e), bases, names, vals, n, true)
	}
}

// knownElsewhere is at most so deep, of words, sections and names from elsewhere alone, of small numbers often.
func knownElsewhere(next func(n int) int, deep int) impl.Expr {
	if deep > 1 && next(6) > 0 {
		if next(6) == 0 {
			return negExpr(knownElsewhere(next, deep-1))
		}
		// Those that the rules name are more often there than the others.
		k := []int{impl.XAdd, impl.XAdd, impl.XSub, impl.XSub, impl.XMul, impl.XDiv, impl.XAnd, impl.XOr}[next(8)]
		a := knownElsewhere(next, deep-1)
		return pairExpr(k, a, knownElsewhere(next, deep-1))
	}
	switch next(5) {
	case 0:
		return globExpr([]string{"g", "h", "sixlet"}[next(3)])
	case 1:
		return sectExpr(next(3))
	case 2:
		return numExpr(next(65536))
	}
	return numExpr(turnWords[next(len(turnWords))])
}

func TestFoldedTermsAreWorthTheSame(t *testing.T) {
	next := nextOf(11)
	worth := 0
	for range 20000 {
		e := knownElsewhere(next, 1+next(6))
		bases := []int{next(65536), next(200000) - 100000, 0}
		names, vals := []string{"g", "h", "sixlet"}, []int{next(65536), next(200000) - 100000, next(3) - 1}
		checkFold(t, e, wantFold(e))
		checkWorthStays(t, e, bases, names, vals)
		if _, ok := impl.Worth(e, bases, names, vals); ok {
			worth++
		}
	}
	if worth < 5000 {
		t.Error("worth something:", worth)
	}
	for range 5000 {
		e := anyTerm(next, 6, next(2) == 0)
		checkFold(t, e, wantFold(e))
		checkWorthStays(t, e, []int{1, 2}, []string{"a"}, []int{3})
	}
}

func TestFoldOfWrongTerms(t *testing.T) {
	for _, e := range wrongTerms() {
		checkStays(t, e)
		for _, w := range wrappers() {
			for times := 1; times <= 6; times++ {
				checkStays(t, within(e, w, times))
			}
		}
		// Beside it stands what would be folded.
		for _, z := range ruleTerms() {
			checkStays(t, pairExpr(impl.XAdd, z[0], e))
			checkStays(t, pairExpr(impl.XAdd, e, z[0]))
			checkStays(t, negExpr(pairExpr(impl.XSub, z[0], negExpr(e))))
			for times := 1; times <= 3; times++ {
				checkStays(t, pairExpr(impl.XSub, within(e, wrapper{"", negExpr}, times), z[0]))
			}
		}
	}
	for _, n := range noWords {
		checkStays(t, numExpr(n))
		checkStays(t, negExpr(numExpr(n)))
		checkStays(t, plus(globExpr("g"), n))
		checkStays(t, plus(numExpr(1), n))
	}
	for _, e := range []impl.Expr{
		{K: impl.XAdd, L: []impl.Expr{numExpr(1), numExpr(2), numExpr(3)}},
		{K: impl.XAdd, L: []impl.Expr{numExpr(1)}},
		{K: impl.XNeg, L: []impl.Expr{numExpr(1), numExpr(2)}},
		{K: impl.XAdd, N: 1, L: []impl.Expr{numExpr(1), numExpr(2)}},
		{K: impl.XAdd, S: "a", L: []impl.Expr{numExpr(1), numExpr(2)}},
		{K: 13, N: 4, S: "some", L: []impl.Expr{plus(numExpr(1), 2), {K: -9, N: -9, S: strings.Repeat("long", 100)}}},
		{K: math.MinInt, N: math.MaxInt, L: slices.Repeat([]impl.Expr{plus(numExpr(1), 2)}, 1000)},
		{K: impl.XNum, N: 5, S: "a"},
		{K: impl.XNum, N: 5, L: []impl.Expr{numExpr(5)}},
	} {
		checkStays(t, e)
		checkStays(t, negExpr(e))
	}
}

// A list may hold itself, and be shared so often that going through all of it would not end.
func TestWhatDoesNotEndIsFoldedAndAsked(t *testing.T) {
	both := make([]impl.Expr, 2)
	both[0], both[1] = impl.Expr{K: impl.XAdd, L: both}, impl.Expr{K: impl.XSub, L: both}
	wide := slices.Repeat([]impl.Expr{numExpr(1)}, 100000)
	for range 3 {
		wide = slices.Repeat([]impl.Expr{{K: impl.XAdd, L: wide}}, 100000)
	}
	long := []impl.Expr{symExpr(strings.Repeat("a", 1<<20))}
	row := slices.Repeat([]impl.Expr{numExpr(1)}, 100000)
	beginnings := []impl.Expr{{L: row}, {L: row[:5]}, {L: row[:7]}, {L: row[:5]}, {L: row[2:7]}, {L: row}}
	for _, e := range []impl.Expr{
		ring(1, hereExpr), ring(3, numExpr(1)), ring(20, symExpr("a")), both[0], both[1], negExpr(both[0]),
		doubled(7, numExpr(1)), doubled(20, negExpr(numExpr(1))), doubled(200, hereExpr), chain(100, numExpr(1)), chain(1000000, numExpr(1)),
		{K: impl.XOr, L: wide}, {L: slices.Repeat([]impl.Expr{{L: long}}, 100000)}, {L: beginnings},
	} {
		if !impl.SameExpr(impl.Fold(e), e) {
			t.Error("Fold changes it")
		}
		if n, ok := impl.Known(e); n != 0 || ok {
			t.Error("Known:", n, ok)
		}
		if n, ok := impl.Worth(e, []int{1}, []string{"a"}, []int{2}); n != 0 || ok {
			t.Error("Worth:", n, ok)
		}
		for _, x := range []impl.Expr{impl.Put(e, hereExpr, nil, nil), impl.Put(hereExpr, e, nil, nil), impl.Put(hereExpr, hereExpr, []string{"a"}, []impl.Expr{e})} {
			if !sameTerm(x, impl.Expr{}) {
				t.Error("Put:", x)
			}
		}
	}
}

func TestKnown(t *testing.T) {
	s, g := sectExpr(1), globExpr("g")
	for _, z := range []struct {
		e    impl.Expr
		want int
	}{
		{numExpr(0), 0}, {numExpr(1), 1}, {numExpr(65535), 65535}, {negExpr(numExpr(0)), 0}, {negExpr(numExpr(32768)), 32768},
		{minus(numExpr(7), 7), 0}, {minus(numExpr(7), 8), 65535}, {pairExpr(impl.XSub, s, s), 0}, {pairExpr(impl.XSub, plus(s, 8), s), 8}, {pairExpr(impl.XMul, numExpr(0), numExpr(9)), 0},
		{pairExpr(impl.XDiv, numExpr(0), numExpr(9)), 0}, {pairExpr(impl.XDiv, pairExpr(impl.XSub, plus(s, 9), s), numExpr(2)), 4},
	} {
		if n, ok := impl.Known(z.e); n != z.want || !ok {
			t.Errorf("Known of %v: %v, %v, want %v", z.e, n, ok, z.want)
		}
	}
	unknown := append(unknowns(), plus(g, 1), plus(g, 0), pairExpr(impl.XSub, s, sectExpr(2)), pairExpr(impl.XMul, g, numExpr(0)))
	for _, e := range append(unknown, wrongTerms()...) {
		if n, ok := impl.Known(e); n != 0 || ok {
			t.Errorf("Known of %v: %v, %v", e, n, ok)
		}
	}
	// What is of the kind of words, and none, is not known.
	wrong := []impl.Expr{{K: impl.XNum, N: 5, S: "a"}, {K: impl.XNum, N: 5, L: []impl.Expr{numExpr(5)}}}
	for _, n := range noWords {
		wrong = append(wrong, numExpr(n), negExpr(numExpr(n)))
	}
	for _, e := range wrong {
		if n, ok := impl.Known(e); n != 0 || ok {
			t.Errorf("Known of %v: %v, %v", e, n, ok)
		}
	}
}

func TestPutWrittenOut(t *testing.T) {
	s, g, a, b := sectExpr(1), globExpr("g"), symExpr("a"), symExpr("b")
	one, two := numExpr(1), numExpr(2)
	names := []string{"a", "b"}
	// No name: here alone.
	for _, e := range []impl.Expr{one, a, s, g, negExpr(a), pairExpr(impl.XOr, a, b)} {
		checkPut(t, e, s, nil, nil, e)
		checkPut(t, e, s, []string{}, []impl.Expr{}, e)
	}
	checkPut(t, hereExpr, s, nil, nil, s)
	checkPut(t, hereExpr, plus(s, 8), nil, nil, plus(s, 8))
	checkPut(t, hereExpr, hereExpr, nil, nil, hereExpr)
	checkPut(t, negExpr(hereExpr), s, nil, nil, negExpr(s))
	checkPut(t, pairExpr(impl.XSub, hereExpr, hereExpr), s, nil, nil, pairExpr(impl.XSub, s, s))
	// Several.
	checkPut(t, a, s, names, []impl.Expr{one, two}, one)
	checkPut(t, b, s, names, []impl.Expr{one, two}, two)
	checkPut(t, symExpr("c"), s, names, []impl.Expr{one, two}, symExpr("c"))
	checkPut(t, symExpr("ab"), s, names, []impl.Expr{one, two}, symExpr("ab"))
	checkPut(t, pairExpr(impl.XAdd, a, b), s, names, []impl.Expr{one, two}, pairExpr(impl.XAdd, one, two))
	checkPut(t, pairExpr(impl.XAdd, b, negExpr(a)), s, names, []impl.Expr{one, two}, pairExpr(impl.XAdd, two, negExpr(one)))
	checkPut(t, pairExpr(impl.XMul, a, pairExpr(impl.XMul, hereExpr, a)), s, []string{"a"}, []impl.Expr{g}, pairExpr(impl.XMul, g, pairExpr(impl.XMul, s, g)))
	// One that is there twice: the first.
	checkPut(t, a, s, []string{"a", "a"}, []impl.Expr{one, two}, one)
	checkPut(t, a, s, []string{"b", "a", "a", "b"}, []impl.Expr{g, two, one, s}, two)
	checkPut(t, b, s, []string{"b", "a", "a", "b"}, []impl.Expr{g, two, one, s}, g)
	// What is no name is no term's either.
	checkPut(t, a, s, []string{"", "mov", "sevenle", "A", "."}, []impl.Expr{one, one, one, one, one}, a)
	checkPut(t, hereExpr, s, []string{"."}, []impl.Expr{one}, s)
	checkPut(t, hereExpr, s, []string{""}, []impl.Expr{one}, s)
	// XGlob of the same name stays.
	checkPut(t, globExpr("a"), s, names, []impl.Expr{one, two}, globExpr("a"))
	checkPut(t, pairExpr(impl.XAnd, globExpr("a"), a), s, names, []impl.Expr{one, two}, pairExpr(impl.XAnd, globExpr("a"), one))
	// Nothing is folded.
	checkPut(t, plus(plus(a, 1), 0), s, names, []impl.Expr{one, two}, plus(plus(one, 1), 0))
	checkPut(t, plus(one, 2), s, nil, nil, plus(one, 2))
	// What is put is not gone through again.
	checkPut(t, a, s, names, []impl.Expr{b, one}, b)
	checkPut(t, pairExpr(impl.XSub, a, b), s, names, []impl.Expr{b, a}, pairExpr(impl.XSub, b, a))
	checkPut(t, a, s, names, []impl.Expr{negExpr(a), one}, negExpr(a))
	checkPut(t, a, s, names, []impl.Expr{pairExpr(impl.XAdd, hereExpr, b), one}, pairExpr(impl.XAdd, hereExpr, b))
	checkPut(t, hereExpr, pairExpr(impl.XAdd, hereExpr, a), names, []impl.Expr{one, two}, pairExpr(impl.XAdd, hereExpr, a))
	checkPut(t, negExpr(hereExpr), a, names, []impl.Expr{one, two}, negExpr(a))
}

func TestPutOfWrongTerms(t *testing.T) {
	s, a, one := sectExpr(1), symExpr("a"), numExpr(1)
	for _, wrong := range append(wrongTerms(), fullTree(7, func() impl.Expr { return hereExpr }), chain(6, one)) {
		for _, w := range wrappers() {
			for times := range 3 {
				x := within(wrong, w, times)
				checkNoPut(t, x, s, nil, nil)
				checkNoPut(t, x, s, []string{"a"}, []impl.Expr{one})
			}
		}
		for _, e := range []impl.Expr{one, a, s, hereExpr, negExpr(a), globExpr("a"), pairExpr(impl.XAdd, a, hereExpr)} {
			// Also where e has no place for them.
			checkNoPut(t, e, wrong, nil, nil)
			checkNoPut(t, e, negExpr(wrong), []string{"a"}, []impl.Expr{one})
			checkNoPut(t, e, s, []string{"a"}, []impl.Expr{wrong})
			checkNoPut(t, e, s, []string{"b"}, []impl.Expr{wrong})
			checkNoPut(t, e, s, []string{"a", "b", "c"}, []impl.Expr{one, one, wrong})
			checkNoPut(t, e, s, []string{"a", "a"}, []impl.Expr{one, negExpr(wrong)})
			checkNoPut(t, e, s, []string{""}, []impl.Expr{wrong})
		}
	}
}

func TestPutOfAsManyValuesAsNames(t *testing.T) {
	s, one := sectExpr(1), numExpr(1)
	for names := range 4 {
		for vals := range 4 {
			l, v := []string{"a", "b", "c"}[:names], slices.Repeat([]impl.Expr{one}, vals)
			for _, e := range []impl.Expr{one, hereExpr, symExpr("z"), globExpr("a")} {
				if names == vals {
					checkPut(t, e, s, l, v, wantPut(e, s, l, v))
				} else {
					checkNoPut(t, e, s, l, v)
				}
			}
			if names != vals {
				checkNoPut(t, symExpr("a"), s, l, v)
			}
		}
	}
	var names []string
	var vals []impl.Expr
	for i := range 2000 {
		names = append(names, fmt.Sprint("n", i))
		vals = append(vals, numExpr(i))
	}
	for i := range 2000 {
		checkPut(t, symExpr(names[i]), s, names, vals, numExpr(i))
	}
	checkNoPut(t, symExpr("n5"), s, names, vals[1:])
}

func TestPutSixDeepAndSeven(t *testing.T) {
	for _, w := range wrappers() {
		for _, v := range wrappers() {
			for times := range 6 {
				for more := range 6 {
					val := within(globExpr("g"), v, more)
					checkPutDeep(t, within(symExpr("a"), w, times), hereExpr, val)
					checkPutDeep(t, within(hereExpr, w, times), val, numExpr(1))
				}
			}
		}
	}
	// Too deep alone, in a term in which it has no place, it is none.
	deep := within(hereExpr, wrappers()[0], 5)
	checkPut(t, numExpr(1), deep, []string{"a"}, []impl.Expr{deep}, numExpr(1))
	checkPut(t, deep, numExpr(1), []string{"a"}, []impl.Expr{deep}, within(numExpr(1), wrappers()[0], 5))
}

func checkPutDeep(t *testing.T, e, here, val impl.Expr) {
	t.Helper()
	names, vals := []string{"a"}, []impl.Expr{val}
	want := wantPut(e, here, names, vals)
	if deepOf(want) > 6 {
		want = impl.Expr{}
	}
	checkPut(t, e, here, names, vals, want)
}

func TestPutOfAnyTerms(t *testing.T) {
	next := nextOf(12)
	put := 0
	all := []string{"a", "b", "z", "r6", "word", "sixlet", "a00000"}
	for range 10000 {
		e, here := anyTerm(next, 1+next(6), next(2) == 0), anyTerm(next, 1+next(3), false)
		var names []string
		var vals []impl.Expr
		for range next(6) {
			names = append(names, all[next(len(all))])
			vals = append(vals, anyTerm(next, 1+next(3), false))
		}
		want := wantPut(e, here, names, vals)
		if deepOf(want) > 6 {
			want = impl.Expr{}
		} else {
			put++
		}
		checkPut(t, e, here, names, vals, want)
	}
	if put < 3000 {
		t.Error("put:", put)
	}
}

func TestWorthOfEachKind(t *testing.T) {
	bases, names, vals := []int{0, 100, 65535}, []string{"g", "h"}, []int{7, 40000}
	worth := func(e impl.Expr, want int) { t.Helper(); checkWorth(t, e, bases, names, vals, want, true) }
	nothing := func(e impl.Expr) { t.Helper(); checkWorth(t, e, bases, names, vals, 0, false) }
	s, g, h := sectExpr(1), globExpr("g"), globExpr("h")
	worth(numExpr(0), 0)
	worth(numExpr(65535), 65535)
	worth(sectExpr(0), 0)
	worth(s, 100)
	worth(sectExpr(2), 65535)
	worth(g, 7)
	worth(h, 40000)
	worth(negExpr(g), 65529)
	worth(negExpr(sectExpr(0)), 0)
	worth(negExpr(negExpr(h)), 40000)
	worth(pairExpr(impl.XAdd, s, g), 107)
	worth(pairExpr(impl.XAdd, h, h), 14464)
	worth(pairExpr(impl.XSub, g, s), 65443)
	worth(pairExpr(impl.XMul, h, g), 17856)
	worth(pairExpr(impl.XDiv, s, g), 14)
	worth(pairExpr(impl.XDiv, h, g), 5714)
	worth(pairExpr(impl.XDiv, sectExpr(2), h), 1)
	worth(pairExpr(impl.XDiv, g, h), 0)
	worth(pairExpr(impl.XAnd, s, g), 4)
	worth(pairExpr(impl.XOr, s, g), 103)
	worth(pairExpr(impl.XDiv, pairExpr(impl.XAdd, h, h), numExpr(2)), 7232)
	worth(pairExpr(impl.XDiv, pairExpr(impl.XSub, g, s), numExpr(2)), 32721)
	for _, e := range []impl.Expr{sectExpr(3), sectExpr(9), globExpr("a"), globExpr("gh"), symExpr("g"), symExpr("a"), hereExpr, {}} {
		nothing(e)
		for _, w := range wrappers() {
			for times := range 6 {
				nothing(within(e, w, times))
			}
		}
		// By 0, or of 0, it is still not there.
		nothing(pairExpr(impl.XMul, numExpr(0), e))
		nothing(pairExpr(impl.XMul, e, numExpr(0)))
		nothing(pairExpr(impl.XAnd, e, numExpr(0)))
		nothing(pairExpr(impl.XSub, e, e))
	}
	for _, e := range wrongTerms() {
		nothing(e)
		for _, w := range wrappers() {
			nothing(w.wrap(e))
		}
	}
	nothing(chain(6, numExpr(1)))
	worth(chain(5, numExpr(1)), 65535)
}

func TestWorthDividedByNothing(t *testing.T) {
	s, g := sectExpr(0), globExpr("g")
	noughts := []impl.Expr{
		numExpr(0), negExpr(numExpr(0)), s, g, negExpr(g), pairExpr(impl.XSub, numExpr(5), numExpr(5)), pairExpr(impl.XSub, sectExpr(1), sectExpr(1)), plus(numExpr(1), 65535),
		pairExpr(impl.XMul, numExpr(256), numExpr(256)), pairExpr(impl.XDiv, numExpr(1), numExpr(2)), pairExpr(impl.XAnd, numExpr(1), numExpr(2)), pairExpr(impl.XOr, s, g),
	}
	for _, zero := range noughts {
		for _, bases := range [][]int{{0, 5}, {65536, 5}, {-65536, 5}, {1 << 40, 5}} {
			vals := []int{bases[0]}
			checkWorth(t, zero, bases, []string{"g"}, vals, 0, true)
			for _, n := range append([]impl.Expr{numExpr(0), numExpr(1), numExpr(65535), sectExpr(1)}, noughts...) {
				e := pairExpr(impl.XDiv, n, zero)
				checkWorth(t, e, bases, []string{"g"}, vals, 0, false)
				for _, w := range wrappers() {
					checkWorth(t, w.wrap(e), bases, []string{"g", "b"}, append(vals, 1), 0, false)
				}
				checkWorth(t, pairExpr(impl.XMul, numExpr(0), e), bases, []string{"g"}, vals, 0, false)
				checkWorth(t, pairExpr(impl.XDiv, numExpr(0), e), bases, []string{"g"}, vals, 0, false)
			}
		}
		checkWorth(t, pairExpr(impl.XDiv, zero, numExpr(3)), []int{0, 5}, []string{"g"}, []int{0}, 0, true)
	}
}

func TestWorthOfNumbersThatAreNoWords(t *testing.T) {
	for _, n := range append(slices.Clone(noWords), turnWords...) {
		want := int(uint16(n))
		checkWorth(t, sectExpr(0), []int{n}, nil, nil, want, true)
		checkWorth(t, sectExpr(9), append(make([]int, 9), n), nil, nil, want, true)
		checkWorth(t, globExpr("g"), nil, []string{"g"}, []int{n}, want, true)
		checkWorth(t, negExpr(globExpr("g")), nil, []string{"g"}, []int{n}, int(-uint16(n)), true)
		// What is asked for is Wrapped ahead of what is worked out of it.
		checkWorth(t, pairExpr(impl.XDiv, sectExpr(0), numExpr(2)), []int{n}, nil, nil, want/2, true)
		checkWorth(t, pairExpr(impl.XDiv, globExpr("g"), numExpr(3)), nil, []string{"g"}, []int{n}, want/3, true)
		checkWorth(t, pairExpr(impl.XAnd, globExpr("g"), numExpr(65535)), nil, []string{"g"}, []int{n}, want, true)
		checkWorth(t, pairExpr(impl.XMul, globExpr("g"), globExpr("g")), nil, []string{"g"}, []int{n}, int(uint16(n)*uint16(n)), true)
	}
}

func TestWorthOfWhatIsNotThere(t *testing.T) {
	for count := range 12 {
		bases := make([]int, count)
		for i := range bases {
			bases[i] = 10 * i
		}
		for n := range 10 {
			if n < count {
				checkWorth(t, sectExpr(n), bases, nil, nil, 10*n, true)
			} else {
				checkWorth(t, sectExpr(n), bases, nil, nil, 0, false)
			}
		}
		checkWorth(t, sectExpr(10), bases, nil, nil, 0, false)
		checkWorth(t, sectExpr(-1), bases, nil, nil, 0, false)
	}
	a, b, c := globExpr("a"), globExpr("b"), globExpr("c")
	names := []string{"a", "b", "c"}
	// More names than vals: those without are not there, the others are.
	checkWorth(t, a, nil, names, []int{4}, 4, true)
	checkWorth(t, b, nil, names, []int{4}, 0, false)
	checkWorth(t, c, nil, names, []int{4, 5}, 0, false)
	checkWorth(t, pairExpr(impl.XAdd, a, b), nil, names, []int{4, 5}, 9, true)
	checkWorth(t, pairExpr(impl.XAdd, a, c), nil, names, []int{4, 5}, 0, false)
	checkWorth(t, a, nil, names, nil, 0, false)
	checkWorth(t, numExpr(3), nil, names, nil, 3, true)
	// More vals than names.
	checkWorth(t, a, nil, names[:1], []int{4, 5, 6}, 4, true)
	checkWorth(t, b, nil, names[:1], []int{4, 5, 6}, 0, false)
	checkWorth(t, a, nil, nil, []int{4, 5, 6}, 0, false)
	checkWorth(t, numExpr(3), nil, nil, []int{4}, 3, true)
	// A name that is there twice: the first.
	checkWorth(t, a, nil, []string{"a", "a"}, []int{4, 5}, 4, true)
	checkWorth(t, a, nil, []string{"b", "a", "b", "a"}, []int{1, 2, 3, 4}, 2, true)
	checkWorth(t, b, nil, []string{"b", "a", "b", "a"}, []int{1, 2, 3, 4}, 1, true)
	checkWorth(t, a, nil, []string{"b", "a", "a"}, []int{1}, 0, false)
	// Names that are none, beside it.
	checkWorth(t, a, nil, []string{"", "mov", "A", "a"}, []int{1, 2, 3, 4}, 4, true)
	checkWorth(t, globExpr("mov"), nil, []string{"mov"}, []int{1}, 0, false)
	checkWorth(t, globExpr(""), nil, []string{""}, []int{1}, 0, false)
}

// What lies behind a list's length is not read.
func TestWorthBehindListsIsNotRead(t *testing.T) {
	bases, names, vals := []int{1, 2}, []string{"a", "b"}, []int{3, 4}
	checkWorth(t, sectExpr(1), bases[:1], names, vals, 0, false)
	checkWorth(t, globExpr("b"), bases, names[:1], vals, 0, false)
	checkWorth(t, globExpr("b"), bases, names, vals[:1], 0, false)
	terms := []impl.Expr{numExpr(1), numExpr(2)}
	checkNoPut(t, symExpr("b"), hereExpr, names, terms[:1])
	checkPut(t, symExpr("b"), hereExpr, names[:1], terms[:1], symExpr("b"))
}

// checkApart wants that no list of these shares memory with another one of them.
func checkApart(t *testing.T, l ...impl.Expr) {
	t.Helper()
	var rooms []room
	for _, e := range l {
		rooms = append(rooms, roomsOf(e)...)
	}
	slices.SortFunc(rooms, func(a, b room) int {
		if a.from < b.from {
			return -1
		}
		return 1
	})
	for i := 1; i < len(rooms); i++ {
		if rooms[i].from < rooms[i-1].to {
			t.Errorf("two lists of %.300s share memory", fmt.Sprint(l))
			return
		}
	}
}

func checkNamesApart(t *testing.T, answer impl.Expr, args ...string) {
	t.Helper()
	for _, name := range namesOf(answer) {
		for _, arg := range args {
			if shareText(name, arg) {
				t.Errorf("%q shares an argument's memory", name)
			}
		}
	}
}

func TestFoldIsNewMemory(t *testing.T) {
	next := nextOf(13)
	var all []impl.Expr
	for range 500 {
		all = append(all, anyTerm(next, 7, next(2) == 0))
	}
	for _, e := range append(all, wrongTerms()...) {
		// The argument's own lists are apart, that they may be laid beside the answer's.
		e = roomyExpr(copyExpr(e))
		f := impl.Fold(e)
		checkApart(t, f, e, impl.Fold(e))
		checkNamesApart(t, f, namesOf(e)...)
	}
	// A list that stands in two places comes out as two.
	g := strings.Repeat("g", 2)
	shared := plus(globExpr(g), 5)
	for _, e := range []impl.Expr{pairExpr(impl.XMul, shared, shared), pairExpr(impl.XMul, shared, impl.Expr{K: impl.XAdd, L: shared.L}), {K: 13, L: []impl.Expr{shared, shared, negExpr(shared)}}, doubled(5, shared), doubled(9, shared)} {
		f := impl.Fold(e)
		checkApart(t, f, copyExpr(e))
		checkNamesApart(t, f, g)
		if !sameTerm(f, e) {
			t.Errorf("Fold of %v: %v", e, f)
		}
		for _, x := range roomsOf(f) {
			for _, y := range roomsOf(e) {
				if x.from < y.to && y.from < x.to {
					t.Error("an argument's memory is handed out")
				}
			}
		}
	}
	// Not even an empty list's room is handed out.
	for _, e := range []impl.Expr{{K: impl.XNum, N: 1, L: make([]impl.Expr, 0, 3)}, {K: 13, L: make([]impl.Expr, 0, 3)}, {K: 13, L: []impl.Expr{{K: 14, L: make([]impl.Expr, 0, 3)}}}} {
		f := impl.Fold(e)
		checkStays(t, e)
		checkApart(t, e, f)
	}
}

// What does not end comes out in new memory, too: of a ring all lists are looked at that can be reached.
func TestFoldOfARingIsNewMemory(t *testing.T) {
	for _, e := range []impl.Expr{ring(1, hereExpr), ring(5, numExpr(1)), doubled(100, hereExpr)} {
		mine := map[*impl.Expr]struct{}{}
		reach(e, mine)
		answers := map[*impl.Expr]struct{}{}
		reach(impl.Fold(e), answers)
		for p := range answers {
			if _, ok := mine[p]; ok {
				t.Fatal("an argument's memory is handed out")
			}
		}
	}
}

func reach(e impl.Expr, met map[*impl.Expr]struct{}) {
	waiting := []impl.Expr{e}
	for len(waiting) > 0 {
		x := waiting[len(waiting)-1]
		waiting = waiting[:len(waiting)-1]
		if len(x.L) == 0 {
			continue
		}
		if _, again := met[&x.L[0]]; again {
			continue
		}
		met[&x.L[0]] = struct{}{}
		waiting = append(waiting, x.L...)
	}
}

func TestPutIsNewMemory(t *testing.T) {
	name, other := strings.Repeat("b", 2), strings.Repeat("c", 2)
	here := roomyExpr(plus(sectExpr(1), 8))
	val := roomyExpr(pairExpr(impl.XAdd, globExpr(name), symExpr(other)))
	e := roomyExpr(pairExpr(impl.XSub, pairExpr(impl.XAdd, symExpr("a"), symExpr("a")), pairExpr(impl.XAdd, hereExpr, pairExpr(impl.XAdd, hereExpr, symExpr("a")))))
	names, vals := []string{"a", name}, []impl.Expr{val, val}
	x := impl.Put(e, here, names, vals)
	if !sameTerm(x, wantPut(e, here, names, vals)) {
		t.Errorf("Put: %v", x)
	}
	checkApart(t, x, e, here, val)
	checkNamesApart(t, x, append(names, namesOf(val)...)...)
	// Even where it is the value alone, or nothing is put.
	checkApart(t, impl.Put(symExpr("a"), here, names, vals), val, here)
	checkApart(t, impl.Put(hereExpr, here, names, vals), val, here)
	checkApart(t, impl.Put(val, here, nil, nil), val, here)
	checkNamesApart(t, impl.Put(symExpr(name), here, nil, nil), name)
	checkNamesApart(t, impl.Put(symExpr("a"), here, names, vals), name, other)
}

func TestFoldingAndPuttingWriteNothing(t *testing.T) {
	next := nextOf(14)
	names := append(make([]string, 0, 4), "a", "sixlet", "behind", "room")[:2]
	bases := append(make([]int, 0, 4), 1, 2, 77, 78)[:2]
	nums := append(make([]int, 0, 4), 3, -4, 77, 78)[:2]
	for range 500 {
		was, wasHere, wasVal := anyTerm(next, 7, next(2) == 0), anyTerm(next, 3, false), anyTerm(next, 3, false)
		e, here := roomyExpr(was), roomyExpr(wasHere)
		vals := append(make([]impl.Expr, 0, 4), roomyExpr(wasVal), roomyExpr(wasHere), numExpr(77), numExpr(78))[:2]
		f := impl.Fold(e)
		impl.Known(e)
		impl.Worth(e, bases, names, nums)
		x := impl.Put(e, here, names, vals)
		// What is answered is the caller's to write.
		scribble(f)
		scribble(x)
		checkRoomy(t, e, was)
		checkRoomy(t, here, wasHere)
		checkRoomy(t, vals[0], wasVal)
		checkRoomy(t, vals[1], wasHere)
		if !sameTerm(vals[:4][2], numExpr(77)) || !sameTerm(vals[:4][3], numExpr(78)) {
			t.Fatal("what lies behind the values is written")
		}
	}
	if !slices.Equal(names[:4], []string{"a", "sixlet", "behind", "room"}) || !slices.Equal(bases[:4], []int{1, 2, 77, 78}) || !slices.Equal(nums[:4], []int{3, -4, 77, 78}) {
		t.Error("written:", names[:4], bases[:4], nums[:4])
	}
}

// scribble writes into each list of e, and into its spare room.
func scribble(e impl.Expr) {
	for i := range e.L {
		scribble(e.L[i])
	}
	l := e.L[:cap(e.L)]
	for i := range l {
		l[i] = symExpr("spoilt")
	}
}

// Nothing is kept from one term to the next.
func TestWorthsHangOnNothingAhead(t *testing.T) {
	g, a := globExpr("g"), symExpr("a")
	for range 3 {
		checkWorth(t, g, nil, []string{"g"}, []int{7}, 7, true)
		checkWorth(t, g, nil, nil, nil, 0, false)
		checkWorth(t, g, nil, []string{"g"}, []int{8}, 8, true)
		checkPut(t, a, hereExpr, []string{"a"}, []impl.Expr{g}, g)
		checkPut(t, a, hereExpr, nil, nil, a)
		checkPut(t, a, hereExpr, []string{"a"}, []impl.Expr{numExpr(1)}, numExpr(1))
		checkNoPut(t, a, hereExpr, []string{"a"}, nil)
		checkFold(t, plus(plus(g, 5), 6), plus(g, 11))
	}
}

func TestNamesStandInAMap(t *testing.T) {
	_, files := programFiles(t)
	f := files["l11_eval.go"]
	if f == nil {
		t.Fatal("no l11_eval.go")
	}
	maps := 0
	ast.Inspect(f, func(n ast.Node) bool {
		if x, ok := n.(*ast.MapType); ok {
			if key, ok := x.Key.(*ast.Ident); ok && key.Name == "string" {
				maps++
			}
		}
		return true
	})
	if maps == 0 {
		t.Error("no map of names")
	}
}
