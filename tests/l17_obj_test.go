package tests

import (
	"bytes"
	"fmt"
	"go/ast"
	"math"
	"slices"
	"strings"
	"testing"
	"unsafe"

	"loop.example/g00329/impl"
)

// wordBytes and the others that make bytes here are written apart from the program.
func wordBytes(words ...int) string {
	var s strings.Builder
	for _, n := range words {
		s.WriteByte(byte(n % 256))
		s.WriteByte(byte(n / 256))
	}
	return s.String()
}

func textBytes(s string) string { return wordBytes(len(s)) + s }

func exprBytes(e impl.Expr) string {
	s := wordBytes(e.K)
	switch e.K {
	case impl.XNum, impl.XSect:
		return s + wordBytes(e.N)
	case impl.XSym, impl.XGlob:
		return s + textBytes(e.S)
	}
	for _, x := range e.L {
		s += exprBytes(x)
	}
	return s
}

func sectBytes(x impl.Sect) string {
	over := 0
	if x.Over {
		over = 1
	}
	s := textBytes(x.Name) + wordBytes(over, len(x.Words))
	for _, e := range x.Words {
		s += exprBytes(e)
	}
	return s
}

func globBytes(x impl.Glob) string { return textBytes(x.Name) + exprBytes(x.E) }

// bodyBytes are those that the sum is of; o need not be right.
func bodyBytes(o impl.Obj) string {
	s := wordBytes(2935, len(o.Sects))
	for _, x := range o.Sects {
		s += sectBytes(x)
	}
	s += wordBytes(len(o.Globs))
	for _, x := range o.Globs {
		s += globBytes(x)
	}
	return s
}

func sumTold(s string) int {
	var sum uint16
	for i := range len(s) {
		sum -= uint16(s[i])
	}
	return int(sum)
}

// sealed has the sum behind it that is right.
func sealed(s string) []byte { return []byte(s + wordBytes(sumTold(s))) }

// A toldReading reads as the document tells it, apart from the program: in ahead is what is not read yet.
type toldReading struct {
	ahead string
	wrong bool
}

func (r *toldReading) bytes(n int) string {
	if r.wrong || n > len(r.ahead) {
		r.wrong = true
		return ""
	}
	s := r.ahead[:n]
	r.ahead = r.ahead[n:]
	return s
}

func (r *toldReading) word() int {
	s := r.bytes(2)
	if r.wrong {
		return 0
	}
	return int(s[0]) + 256*int(s[1])
}

func (r *toldReading) name() string {
	s := r.bytes(r.word())
	r.wrong = r.wrong || !wantName(s)
	return s
}

func (r *toldReading) expr(deep int) impl.Expr {
	k := r.word()
	switch {
	case r.wrong || deep > 6:
	case k == impl.XNum:
		return numExpr(r.word())
	case k == impl.XSym:
		return symExpr(r.name())
	case k == impl.XHere:
		return hereExpr
	case k == impl.XNeg:
		return negExpr(r.expr(deep + 1))
	case pairSigns[k] != "":
		a := r.expr(deep + 1)
		return pairExpr(k, a, r.expr(deep+1))
	case k == impl.XSect:
		n := r.word()
		r.wrong = r.wrong || n > 9
		return sectExpr(n)
	case k == impl.XGlob:
		return globExpr(r.name())
	}
	r.wrong = true
	return impl.Expr{}
}

func wantObjOk(o impl.Obj) bool {
	if len(o.Sects) > 8 || len(o.Globs) > 20 {
		return false
	}
	for i, x := range o.Sects {
		if !wantName(x.Name) || len(x.Words) > 256 || slices.ContainsFunc(o.Sects[:i], func(y impl.Sect) bool { return y.Name == x.Name }) {
			return false
		}
		if slices.ContainsFunc(x.Words, func(e impl.Expr) bool { return !wantTermOk(e, len(o.Sects)) }) {
			return false
		}
	}
	for i, x := range o.Globs {
		if !wantName(x.Name) || !wantTermOk(x.E, len(o.Sects)) || i > 0 && o.Globs[i-1].Name >= x.Name {
			return false
		}
	}
	return true
}

// objTold is nothing and false of what no right module's bytes are.
func objTold(b []byte) (impl.Obj, bool) {
	if len(b) < 2 || len(b) > 3000 {
		return impl.Obj{}, false
	}
	s := string(b[:len(b)-2])
	r := &toldReading{ahead: s}
	r.wrong = wordBytes(sumTold(s)) != string(b[len(b)-2:]) || r.word() != 2935
	var o impl.Obj
	for n := r.word(); n > 0 && !r.wrong; n-- {
		x := impl.Sect{Name: r.name()}
		over := r.word()
		x.Over = over == 1
		r.wrong = r.wrong || over > 1
		for n := r.word(); n > 0 && !r.wrong; n-- {
			x.Words = append(x.Words, r.expr(1))
		}
		o.Sects = append(o.Sects, x)
	}
	for n := r.word(); n > 0 && !r.wrong; n-- {
		name := r.name()
		o.Globs = append(o.Globs, impl.Glob{Name: name, E: r.expr(1)})
	}
	if r.wrong || r.ahead != "" || !wantObjOk(o) {
		return impl.Obj{}, false
	}
	return o, true
}

func sameObjTold(a, b impl.Obj) bool {
	return slices.EqualFunc(a.Sects, b.Sects, func(x, y impl.Sect) bool {
		return x.Name == y.Name && x.Over == y.Over && sameTerms(x.Words, y.Words)
	}) && slices.EqualFunc(a.Globs, b.Globs, func(x, y impl.Glob) bool { return x.Name == y.Name && sameTerm(x.E, y.E) })
}

func isNoObj(o impl.Obj) bool { return len(o.Sects)+len(o.Globs) == 0 }

// checkExprBytes wants that e is put as told behind anything, and comes back of it from wherever it stands.
func checkExprBytes(t *testing.T, e impl.Expr) {
	t.Helper()
	want := exprBytes(e)
	for _, ahead := range []string{"", "\x09", "\x01\x00", "ahead"} {
		was := []byte(ahead)
		b := withRoom(was)
		got := impl.PutExpr(b, e)
		if string(got) != ahead+want {
			t.Errorf("PutExpr of %v behind %q: %x, want %x", e, ahead, got, ahead+want)
		}
		checkUntouched(t, b, was)
		for _, behind := range []string{"", "\x00", "\x01\x00\x02\x00"} {
			checkGetExpr(t, append(bytes.Clone(got), behind...), len(ahead), e, len(ahead)+len(want))
		}
	}
}

func checkGetExpr(t *testing.T, b []byte, at int, want impl.Expr, wantNext int) {
	t.Helper()
	if e, next, ok := impl.GetExpr(b, at); !ok || next != wantNext || !sameTerm(e, want) {
		t.Errorf("GetExpr of %.200x at %d: %v, %d, %v, want %v, %d", b, at, e, next, ok, want, wantNext)
	}
}

func checkNoExpr(t *testing.T, b []byte, at int) {
	t.Helper()
	if e, next, ok := impl.GetExpr(b, at); ok || next != 0 || !sameTerm(e, impl.Expr{}) {
		t.Errorf("GetExpr of %.200x at %d: %v, %d, %v", b, at, e, next, ok)
	}
}

// checkNotPut wants that b alone comes back, as new memory.
func checkNotPut(t *testing.T, e impl.Expr) {
	t.Helper()
	for _, ahead := range []string{"", "\x09", "ahead"} {
		was := []byte(ahead)
		b := withRoom(was)
		got := impl.PutExpr(b, e)
		if string(got) != ahead {
			t.Errorf("PutExpr of %.200s: %.200x", fmt.Sprint(e), got)
		}
		got = got[:cap(got)]
		for i := range got {
			got[i] = 0x55
		}
		checkUntouched(t, b, was)
	}
}

// checkObjBytes wants that o is put as told, and comes back.
func checkObjBytes(t *testing.T, what string, o impl.Obj) []byte {
	t.Helper()
	want := sealed(bodyBytes(o))
	b := impl.PutObj(o)
	if !bytes.Equal(b, want) {
		t.Errorf("PutObj of %.200s: %.400x, want %.400x", what, b, want)
	}
	back, ok := impl.GetObj(b)
	if !ok || !sameObjTold(back, o) || !impl.SameObj(back, o) || !impl.SameObj(o, back) {
		t.Errorf("GetObj of %.200s: %.400s, %v, want %.400s", what, objText(back), ok, objText(o))
	}
	return b
}

func checkNotPutObj(t *testing.T, what string, o impl.Obj) {
	t.Helper()
	if b := impl.PutObj(o); len(b) > 0 {
		t.Errorf("PutObj of %.200s: %d bytes", what, len(b))
	}
}

func checkNoObj(t *testing.T, what string, b []byte) {
	t.Helper()
	if o, ok := impl.GetObj(b); ok || !isNoObj(o) {
		t.Errorf("GetObj of %.200s (%d bytes): %.200s, %v", what, len(b), objText(o), ok)
	}
}

func checkSameObj(t *testing.T, what string, a, b impl.Obj, want bool) {
	t.Helper()
	if impl.SameObj(a, b) != want || impl.SameObj(b, a) != want {
		t.Errorf("SameObj of %.200s is not %v", what, want)
	}
}

func TestMaxObj(t *testing.T) {
	if impl.MaxObj != 3000 {
		t.Error("MaxObj:", impl.MaxObj)
	}
}

func TestPutExprWrittenOut(t *testing.T) {
	a := symExpr("a")
	for want, e := range map[string]impl.Expr{
		"\x01\x00\x00\x00": numExpr(0), "\x01\x00\x05\x00": numExpr(5), "\x01\x00\x00\x01": numExpr(256), "\x01\x00\xff\xff": numExpr(65535), "\x01\x00\x34\x12": numExpr(0x1234),
		"\x02\x00\x01\x00a": a, "\x02\x00\x06\x00sixlet": symExpr("sixlet"), "\x03\x00": hereExpr,
		"\x04\x00\x03\x00": negExpr(hereExpr), "\x04\x00\x04\x00\x01\x00\x07\x00": negExpr(negExpr(numExpr(7))),
		"\x05\x00\x03\x00\x02\x00\x01\x00a":                        pairExpr(impl.XAdd, hereExpr, a),
		"\x06\x00\x02\x00\x01\x00a\x03\x00":                        pairExpr(impl.XSub, a, hereExpr),
		"\x07\x00\x03\x00\x03\x00":                                 pairExpr(impl.XMul, hereExpr, hereExpr),
		"\x08\x00\x01\x00\x01\x00\x01\x00\x00\x00":                 pairExpr(impl.XDiv, numExpr(1), numExpr(0)),
		"\x09\x00\x03\x00\x01\x00\x02\x00":                         pairExpr(impl.XAnd, hereExpr, numExpr(2)),
		"\x0a\x00\x01\x00\x02\x00\x03\x00":                         pairExpr(impl.XOr, numExpr(2), hereExpr),
		"\x0b\x00\x00\x00":                                         sectExpr(0),
		"\x0b\x00\x09\x00":                                         sectExpr(9),
		"\x0c\x00\x01\x00g":                                        globExpr("g"),
		"\x0c\x00\x06\x00a00000":                                   globExpr("a00000"),
		"\x05\x00\x06\x00\x0b\x00\x01\x00\x03\x00\x04\x00\x03\x00": pairExpr(impl.XAdd, pairExpr(impl.XSub, sectExpr(1), hereExpr), negExpr(hereExpr)),
	} {
		if got := impl.PutExpr(nil, e); string(got) != want {
			t.Errorf("PutExpr of %v: %x, want %x", e, got, want)
		}
		checkExprBytes(t, e)
	}
}

func TestBytesOfEachKind(t *testing.T) {
	for _, e := range allLeaves() {
		checkExprBytes(t, e)
		for _, w := range wrappers() {
			for times := 1; times < 4; times++ {
				checkExprBytes(t, within(e, w, times))
			}
		}
	}
	// An empty list and none are the same.
	checkExprBytes(t, impl.Expr{K: impl.XHere, L: make([]impl.Expr, 0, 3)})
	checkExprBytes(t, negExpr(impl.Expr{K: impl.XNum, N: 1, L: []impl.Expr{}}))
}

func TestBytesOfEachWord(t *testing.T) {
	for n := range 65536 {
		b := impl.PutExpr(nil, numExpr(n))
		if e, next, ok := impl.GetExpr(b, 0); string(b) != wordBytes(1, n) || !ok || next != 4 || !sameTerm(e, numExpr(n)) {
			t.Fatalf("%d: %x, %v, %d, %v", n, b, e, next, ok)
		}
		sect := []byte(wordBytes(11, n))
		if n < 10 {
			checkGetExpr(t, sect, 0, sectExpr(n), 4)
			continue
		}
		checkNoExpr(t, sect, 0)
	}
}

func TestBytesSixDeepAndSeven(t *testing.T) {
	for _, w := range wrappers() {
		for _, e := range allLeaves() {
			checkExprBytes(t, within(e, w, 5))
			seven := within(e, w, 6)
			checkNotPut(t, seven)
			checkNoExpr(t, []byte(exprBytes(seven)), 0)
		}
	}
	for _, inner := range wrappers() {
		for _, outer := range wrappers() {
			for times := range 7 {
				checkNoExpr(t, []byte(exprBytes(within(within(hereExpr, inner, times), outer, 6-times))), 0)
			}
			checkExprBytes(t, within(within(hereExpr, inner, 2), outer, 3))
		}
	}
	next := nextOf(17)
	leaf := func() impl.Expr { return allLeaves()[next(len(allLeaves()))] }
	for range 100 {
		checkExprBytes(t, fullTree(6, leaf))
		seven := fullTree(7, leaf)
		checkNotPut(t, seven)
		checkNoExpr(t, []byte(exprBytes(seven)), 0)
	}
	// So deep that going down would not end well.
	for _, k := range []int{impl.XNeg, impl.XAdd, impl.XOr} {
		checkNoExpr(t, []byte(strings.Repeat(wordBytes(k), 5000000)+wordBytes(3)), 0)
	}
}

func TestWrongTermsAreNotPut(t *testing.T) {
	for _, e := range wrongTerms() {
		checkNotPut(t, e)
		for _, w := range wrappers() {
			for times := 1; times < 6; times++ {
				checkNotPut(t, within(e, w, times))
			}
		}
	}
	for _, n := range noWords {
		checkNotPut(t, numExpr(n))
		checkNotPut(t, sectExpr(n))
		checkNotPut(t, impl.Expr{K: n})
	}
	for _, s := range append([]string{strings.Repeat("a", 1000), strings.Repeat("a", 1001), "a\x00", "A"}, keptTexts...) {
		checkNotPut(t, symExpr(s))
		checkNotPut(t, negExpr(globExpr(s)))
	}
	checkNotPut(t, ring(3, hereExpr))
	checkNotPut(t, ring(1, hereExpr))
	checkNotPut(t, doubled(200, hereExpr))
	checkNotPut(t, chain(1000000, hereExpr))
}

// What is not right in a part of a part is not read, either.
func TestWrongTermsAreNotRead(t *testing.T) {
	wrong := []string{
		wordBytes(11, 10), wordBytes(11, 255), wordBytes(11, 256), wordBytes(11, 65535),
		wordBytes(2, 0), wordBytes(12, 0), wordBytes(2) + textBytes("A"), wordBytes(12) + textBytes("sevenle"),
	}
	for _, k := range []int{0, 13, 14, 255, 256, 256 + 1, 256 + 3, 2 * 256, 32768, 65535, 65535 - 3} {
		wrong = append(wrong, wordBytes(k), wordBytes(k, 0), wordBytes(k, 3), wordBytes(k)+textBytes("a"), wordBytes(k, 3, 3))
	}
	names := append([]string{"", " ", "a ", " a", "a.", ".a", "-", "0", "0a", "A", "aB", "\x00", "a\x00", "\xff", "\u00e4", "a1234567", "sevenle", strings.Repeat("a", 999), strings.Repeat("a", 1000), strings.Repeat("a", 1001), strings.Repeat("a", 65535)}, keptTexts...)
	for _, s := range names {
		for _, k := range []int{2, 12} {
			wrong = append(wrong, wordBytes(k)+textBytes(s))
		}
	}
	for _, s := range wrong {
		checkNoExpr(t, []byte(s), 0)
		checkNoExpr(t, []byte("\x09"+s), 1)
		for _, around := range []string{wordBytes(4), wordBytes(5), wordBytes(10, 3), wordBytes(6, 1, 7), wordBytes(4, 4, 4), wordBytes(7, 8, 3, 4), wordBytes(4, 9)} {
			checkNoExpr(t, []byte(around+s), 0)
			// Even where all that there could be stands behind it.
			checkNoExpr(t, []byte(around+s+wordBytes(3, 3, 3, 3)), 0)
		}
	}
}

// Of all words one of twelve is a kind.
func TestEachWordAsAKind(t *testing.T) {
	for k := range 65536 {
		for _, behind := range []string{"", wordBytes(3), wordBytes(3, 3), wordBytes(1) + "a", wordBytes(1, 3), wordBytes(1, 3, 1, 3)} {
			s := wordBytes(k) + behind
			r := &toldReading{ahead: s}
			e := r.expr(1)
			if r.wrong {
				checkNoExpr(t, []byte(s), 0)
				continue
			}
			checkGetExpr(t, []byte(s), 0, e, len(s)-len(r.ahead))
		}
	}
}

func TestBytesOfTermsThatEndWithin(t *testing.T) {
	next := nextOf(117)
	l := []impl.Expr{fullTree(6, func() impl.Expr { return symExpr("sixlet") }), within(globExpr("a00000"), wrappers()[0], 5)}
	for range 200 {
		l = append(l, anyTerm(next, 6, false))
	}
	for _, e := range append(l, allLeaves()...) {
		b := []byte(exprBytes(e))
		for end := range b {
			checkNoExpr(t, b[:end], 0)
			checkNoExpr(t, bytes.Clone(b[:end]), 0)
			checkNoExpr(t, append([]byte{7, 7, 7}, b[:end]...), 3)
		}
		for _, at := range []int{-1, -2, math.MinInt, math.MinInt + 1, len(b), len(b) + 1, len(b) + 2, math.MaxInt - 1, math.MaxInt} {
			checkNoExpr(t, b, at)
			checkNoExpr(t, b[:len(b):len(b)], at)
		}
	}
	for _, at := range []int{-1, 0, 1, math.MinInt, math.MaxInt} {
		checkNoExpr(t, nil, at)
		checkNoExpr(t, []byte{}, at)
		checkNoExpr(t, []byte{3}, at)
	}
}

// Terms that are put one behind the other are read one behind the other.
func TestRowsOfTerms(t *testing.T) {
	next := nextOf(217)
	for range 300 {
		var l []impl.Expr
		var b []byte
		for range 1 + next(12) {
			l = append(l, anyTerm(next, 6, false))
			b = impl.PutExpr(b, l[len(l)-1])
		}
		at := 0
		for _, want := range l {
			e, to, ok := impl.GetExpr(b, at)
			if !ok || !sameTerm(e, want) || to != at+len(exprBytes(want)) {
				t.Fatalf("GetExpr at %d: %v, %d, %v, want %v", at, e, to, ok, want)
			}
			at = to
		}
		if at != len(b) {
			t.Error("bytes:", at, len(b))
		}
	}
}

// anyBytes are of such words and names as terms are made of, mostly.
func anyBytes(next func(n int) int) string {
	var s strings.Builder
	for range next(30) {
		switch next(10) {
		case 0:
			s.WriteString(textBytes([]string{"a", "sixlet", "mov", "", "b1"}[next(5)]))
		case 1:
			s.WriteByte(byte(next(256)))
		case 2:
			s.WriteString(wordBytes(next(65536)))
		default:
			s.WriteString(wordBytes(next(14)))
		}
	}
	return s.String()
}

func TestTermsOfAnyBytes(t *testing.T) {
	next := nextOf(317)
	right := 0
	for i := range 60000 {
		s := anyBytes(next)
		if i%3 == 0 {
			b := []byte(exprBytes(anyTerm(next, 5, false)))
			b[next(len(b))] = byte(next(14))
			s = string(b)
		}
		at := next(len(s) + 1)
		if i%2 == 0 {
			at = 0
		}
		r := &toldReading{ahead: s[at:]}
		want := r.expr(1)
		if r.wrong {
			checkNoExpr(t, []byte(s), at)
			continue
		}
		right++
		to := len(s) - len(r.ahead)
		checkGetExpr(t, []byte(s), at, want, to)
		if got := impl.PutExpr([]byte(s[:at]), want); string(got) != s[:to] {
			t.Errorf("PutExpr of %v: %x, want %x", want, got, s[:to])
		}
	}
	if right < 9000 {
		t.Error("right:", right)
	}
}

func TestPutObjWrittenOut(t *testing.T) {
	for what, x := range map[string]struct {
		o    impl.Obj
		want string
	}{
		"nothing":                 {impl.Obj{}, "\x77\x0b\x00\x00\x00\x00\x7e\xff"},
		"empty lists":             {impl.Obj{Sects: []impl.Sect{}, Globs: []impl.Glob{}}, "\x77\x0b\x00\x00\x00\x00\x7e\xff"},
		"a section":               {impl.Obj{Sects: []impl.Sect{{Name: "b"}}}, "\x77\x0b\x01\x00\x01\x00b\x00\x00\x00\x00\x00\x00\x1a\xff"},
		"one that lies over":      {impl.Obj{Sects: []impl.Sect{{Name: "b", Over: true}}}, "\x77\x0b\x01\x00\x01\x00b\x01\x00\x00\x00\x00\x00\x19\xff"},
		"an empty list of words":  {impl.Obj{Sects: []impl.Sect{{Name: "b", Words: []impl.Expr{}}}}, "\x77\x0b\x01\x00\x01\x00b\x00\x00\x00\x00\x00\x00\x1a\xff"},
		"a word":                  {impl.Obj{Sects: []impl.Sect{{Name: "b", Words: []impl.Expr{numExpr(5)}}}}, "\x77\x0b\x01\x00\x01\x00b\x00\x00\x01\x00\x01\x00\x05\x00\x00\x00\x13\xff"},
		"a name seen outside":     {impl.Obj{Globs: []impl.Glob{{Name: "g", E: numExpr(0x102)}}}, "\x77\x0b\x00\x00\x01\x00\x01\x00g\x01\x00\x02\x01\x11\xff"},
		"two sections, two names": {impl.Obj{Sects: []impl.Sect{{Name: "b"}, {Name: "a"}}, Globs: []impl.Glob{{Name: "a", E: sectExpr(1)}, {Name: "b", E: globExpr("c")}}}, "\x77\x0b\x02\x00\x01\x00b\x00\x00\x00\x00\x01\x00a\x00\x00\x00\x00\x02\x00\x01\x00a\x0b\x00\x01\x00\x01\x00b\x0c\x00\x01\x00c\x74\xfd"},
		"a worth of 0":            {impl.Obj{Globs: []impl.Glob{{Name: "a", E: numExpr(0)}}}, "\x77\x0b\x00\x00\x01\x00\x01\x00a\x01\x00\x00\x00\x1a\xff"},
	} {
		if b := impl.PutObj(x.o); string(b) != x.want {
			t.Errorf("PutObj of %s: %x, want %x", what, b, x.want)
		}
		checkObjBytes(t, what, x.o)
	}
}

// someObjs are right ones, each with another thing in it.
func someObjs() map[string]impl.Obj {
	names := impl.Obj{Sects: []impl.Sect{{Name: "code"}}}
	for i := range 20 {
		names.Globs = append(names.Globs, impl.Glob{Name: fmt.Sprintf("g%02d", i), E: []impl.Expr{numExpr(i), plus(sectExpr(0), i+1), globExpr("sixlet"), negExpr(globExpr("a"))}[i%4]})
	}
	var sects impl.Obj
	for i := range 8 {
		sects.Sects = append(sects.Sects, impl.Sect{Name: fmt.Sprintf("s%d", 7-i), Over: i%3 == 0})
		sects.Globs = append(sects.Globs, impl.Glob{Name: strings.Repeat("b", 1+i%6) + []string{"", "a"}[i/6], E: sectExpr(i)})
	}
	slices.SortFunc(sects.Globs, func(x, y impl.Glob) int { return strings.Compare(x.Name, y.Name) })
	sects.Globs = slices.CompactFunc(sects.Globs, func(x, y impl.Glob) bool { return x.Name == y.Name })
	full := sects
	full.Sects = slices.Clone(sects.Sects)
	terms := []impl.Expr{numExpr(65535), globExpr("sixlet"), plus(sectExpr(7), 65535), pairExpr(impl.XSub, sectExpr(0), sectExpr(7)), pairExpr(impl.XDiv, numExpr(1), numExpr(0)), chain(5, sectExpr(7)), pairExpr(impl.XMul, negExpr(globExpr("a")), pairExpr(impl.XOr, sectExpr(3), numExpr(9)))}
	for i := range full.Sects {
		full.Sects[i].Words = slices.Repeat(terms, i%3)
	}
	return map[string]impl.Obj{
		"nothing":      {},
		"code":         {Sects: []impl.Sect{{Name: "code"}}},
		"all over":     {Sects: []impl.Sect{{Name: "a", Over: true}, {Name: "b", Over: true, Words: []impl.Expr{numExpr(0)}}}},
		"20 names":     names,
		"8 sections":   sects,
		"8 with words": full,
		"256 words":    {Sects: []impl.Sect{{Name: "sixlet", Words: slices.Repeat([]impl.Expr{numExpr(0o5000)}, 256)}}, Globs: []impl.Glob{{Name: "a", E: fullTerm()}}},
	}
}

// fullTerm is six deep everywhere, and stays as it is where it is folded.
func fullTerm() impl.Expr {
	n := 0
	return fullTree(6, func() impl.Expr { n++; return globExpr(fmt.Sprintf("g%d", n)) })
}

func TestModulesComeBackOfTheirBytes(t *testing.T) {
	for what, o := range someObjs() {
		checkObjOk(t, what, o, true)
		checkObjBytes(t, what, o)
	}
	next := nextOf(417)
	words, globs, bare := 0, 0, 0
	for range 3000 {
		l := newMaker(next).lines()
		o, code, _ := impl.Assemble(l)
		if code != impl.ErNone {
			continue
		}
		if len(bodyBytes(o)) > 2998 {
			checkNotPutObj(t, objText(o), o)
			continue
		}
		checkObjBytes(t, objText(o), o)
		for _, x := range o.Sects {
			words += len(x.Words)
			if len(x.Words) == 0 {
				bare++
			}
		}
		globs += len(o.Globs)
	}
	if words < 10000 || globs < 1000 || bare < 100 {
		t.Error("words, names, sections without words:", words, globs, bare)
	}
}

// objOfSize has just so many bytes, with the sum or without; from some 60 on any number can be met.
func objOfSize(size int) impl.Obj {
	var o impl.Obj
	left := size - len(bodyBytes(o)) - 2
	// A section of a word of a letter is 7 bytes and those of its words, which are 4 each: names make up for the rest.
	for i := 0; left > 0; i++ {
		name := strings.Repeat(string(rune('a'+i)), 1+(left-7)%4)
		count := min(256, (left-6-len(name))/4)
		x := impl.Sect{Name: name, Words: slices.Repeat([]impl.Expr{numExpr(0xFFFF)}, count)}
		if rest := left - len(sectBytes(x)); rest > 0 && rest < 12 {
			x.Words = x.Words[:len(x.Words)-4]
		}
		left -= len(sectBytes(x))
		o.Sects = append(o.Sects, x)
	}
	return o
}

// The sum counts among the bytes that a module may have.
func TestJustAsManyBytesAsMayBe(t *testing.T) {
	for size := 2900; size <= 3100; size++ {
		o := objOfSize(size)
		b := sealed(bodyBytes(o))
		if len(b) != size || !impl.ObjOk(o) {
			t.Fatalf("size %d: %d bytes, %s", size, len(b), objText(o))
		}
		if size <= 3000 {
			checkObjBytes(t, fmt.Sprint(size, " bytes"), o)
			continue
		}
		checkNotPutObj(t, fmt.Sprint(size, " bytes"), o)
		checkNoObj(t, "too many bytes", b)
	}
	checkNotPutObj(t, "all limits", fullObj())
	checkNoObj(t, "all limits", sealed(bodyBytes(fullObj())))
	// The greatest that there can be.
	o := fullObj()
	for i := range o.Sects {
		o.Sects[i].Words = slices.Repeat([]impl.Expr{fullTerm()}, 256)
	}
	checkObjOk(t, "the greatest", o, true)
	checkNotPutObj(t, "the greatest", o)
	checkNoObj(t, "the greatest", sealed(bodyBytes(o)))
}

// wrongObjs are not right, each by one thing.
func wrongObjs() map[string]impl.Obj {
	one := numExpr(1)
	sect := func(e impl.Expr) impl.Obj {
		return impl.Obj{Sects: []impl.Sect{{Name: "a"}, {Name: "b", Words: []impl.Expr{one, e, one}}}}
	}
	glob := func(e impl.Expr) impl.Obj {
		return impl.Obj{Sects: []impl.Sect{{Name: "a"}}, Globs: []impl.Glob{{Name: "a", E: one}, {Name: "b", E: e}}}
	}
	l := map[string]impl.Obj{
		"two of one name":      {Sects: []impl.Sect{{Name: "a"}, {Name: "b"}, {Name: "a"}}},
		"one over, one not":    {Sects: []impl.Sect{{Name: "a"}, {Name: "a", Over: true}}},
		"names alike":          {Globs: []impl.Glob{{Name: "a", E: one}, {Name: "a", E: one}}},
		"names descending":     {Globs: []impl.Glob{{Name: "b", E: one}, {Name: "a", E: one}}},
		"a beginning behind":   {Globs: []impl.Glob{{Name: "ab", E: one}, {Name: "a", E: one}}},
		"a section not there":  sect(sectExpr(2)),
		"one that none has":    glob(sectExpr(1)),
		"one too many words":   {Sects: []impl.Sect{{Name: "a", Words: slices.Repeat([]impl.Expr{one}, 257)}}},
		"one too many, behind": {Sects: []impl.Sect{{Name: "b"}, {Name: "a", Words: slices.Repeat([]impl.Expr{one}, 257)}}},
		"a word alone":         {Sects: []impl.Sect{{Name: "a", Words: []impl.Expr{sectExpr(1)}}}},
	}
	for _, name := range []string{"", "A", "0", "sevenle", "mov", "r0", "a b", "over\x00", strings.Repeat("a", 1000)} {
		l["a section of the name "+name] = impl.Obj{Sects: []impl.Sect{{Name: "a"}, {Name: name}}}
		l["a name "+name] = impl.Obj{Globs: []impl.Glob{{Name: name, E: one}}}
	}
	for i := range 3 {
		var sects, globs impl.Obj
		for j := range 9 + i {
			sects.Sects = append(sects.Sects, impl.Sect{Name: fmt.Sprintf("s%d", j)})
		}
		for j := range 21 + i {
			globs.Globs = append(globs.Globs, impl.Glob{Name: fmt.Sprintf("g%02d", j), E: one})
		}
		l[fmt.Sprint(9+i, " sections")], l[fmt.Sprint(21+i, " names")] = sects, globs
	}
	for i, e := range []impl.Expr{
		{}, symExpr("a"), hereExpr, negExpr(symExpr("a")), plus(hereExpr, 2), negExpr(one), plus(one, 1), plus(globExpr("a"), 0), minus(globExpr("a"), 1), pairExpr(impl.XAdd, one, globExpr("a")), pairExpr(impl.XSub, sectExpr(0), sectExpr(0)),
		plus(plus(globExpr("a"), 1), 1), chain(6, globExpr("a")), negExpr(negExpr(numExpr(0))), pairExpr(impl.XMul, sectExpr(0), sectExpr(9)), globExpr("mov"), pairExpr(impl.XOr, globExpr("a"), plus(one, 1)),
	} {
		l[fmt.Sprint("a word ", i)], l[fmt.Sprint("a worth ", i)] = sect(e), glob(e)
	}
	return l
}

func TestModulesThatAreNotRight(t *testing.T) {
	for what, o := range wrongObjs() {
		checkObjOk(t, what, o, false)
		checkNotPutObj(t, what, o)
		checkNoObj(t, what, sealed(bodyBytes(o)))
	}
	// What has no bytes at all, since it is no word or ends never.
	for _, e := range []impl.Expr{numExpr(-1), numExpr(65536), sectExpr(-1), ring(2, hereExpr), doubled(200, hereExpr), chain(100000, hereExpr)} {
		checkNotPutObj(t, "a word", impl.Obj{Sects: []impl.Sect{{Name: "a", Words: []impl.Expr{e}}}})
		checkNotPutObj(t, "a worth", impl.Obj{Globs: []impl.Glob{{Name: "a", E: e}}})
	}
}

func TestTheFirstWordOfAModule(t *testing.T) {
	o := someObjs()["20 names"]
	s := bodyBytes(o)[2:]
	for n := range 65536 {
		b := sealed(wordBytes(n) + s)
		if n != 2935 {
			checkNoObj(t, "another first word", b)
			continue
		}
		if back, ok := impl.GetObj(b); !ok || !sameObjTold(back, o) {
			t.Error("the first word is refused")
		}
	}
}

// Each word of a section and of a count as any other word, with a sum that is right.
func TestOverAndCountsOfAModule(t *testing.T) {
	ahead, behind := wordBytes(2935, 1)+textBytes("a"), wordBytes(0)
	for n := range 65536 {
		b := sealed(ahead + wordBytes(n, 0) + behind)
		o, ok := impl.GetObj(b)
		if ok != (n < 2) || ok && !sameObjTold(o, impl.Obj{Sects: []impl.Sect{{Name: "a", Over: n == 1}}}) || !ok && !isNoObj(o) {
			t.Errorf("Over %d: %s, %v", n, objText(o), ok)
		}
		for _, b := range [][]byte{sealed(wordBytes(2935, n, 0)), sealed(wordBytes(2935, 0, n)), sealed(ahead + wordBytes(0, n, 0)), sealed(wordBytes(2935, n)), sealed(wordBytes(2935, 1, n))} {
			_, want := objTold(b)
			if _, ok := impl.GetObj(b); ok != want {
				t.Errorf("GetObj of %x: %v", b, ok)
			}
		}
	}
	o := someObjs()["8 with words"]
	for what, s := range map[string]string{
		"a section more than told": wordBytes(2935, 7) + bodyBytes(o)[4:], "a section less than told": wordBytes(2935, 9) + bodyBytes(o)[4:], "no section told": wordBytes(2935, 0) + bodyBytes(o)[4:],
		"65535 sections":       wordBytes(2935, 65535) + strings.Repeat(wordBytes(1)+"a"+wordBytes(0, 0), 300),
		"65535 words":          wordBytes(2935, 1) + textBytes("a") + wordBytes(0, 65535) + strings.Repeat(wordBytes(1, 1), 700),
		"65535 names":          wordBytes(2935, 0, 65535) + strings.Repeat(wordBytes(1)+"a"+wordBytes(1, 1), 300),
		"a name of 65535":      wordBytes(2935, 1, 65535),
		"a name of 1000":       wordBytes(2935, 1) + textBytes(strings.Repeat("a", 1000)) + wordBytes(0, 0, 0),
		"a name of 1001":       wordBytes(2935, 1) + textBytes(strings.Repeat("a", 1001)) + wordBytes(0, 0, 0),
		"no count of names":    wordBytes(2935, 0),
		"no count of sections": wordBytes(2935),
		"no word":              "",
		"a byte":               "\x77",
	} {
		checkNoObj(t, what, sealed(s))
	}
}

func TestASumThatIsWrong(t *testing.T) {
	for what, o := range someObjs() {
		b := sealed(bodyBytes(o))
		end := len(b) - 2
		sum := int(b[end]) + 256*int(b[end+1])
		step := 1
		if end > 500 {
			step = 251
		}
		for n := 0; n < 65536; n += step {
			if n != sum {
				checkNoObj(t, "another sum of "+what, append(bytes.Clone(b[:end]), wordBytes(n)...))
			}
		}
		for _, n := range []int{sum + 1, sum - 1, sum + 256, sum - 256, -sum, sum ^ 0xFFFF, sum + 32768} {
			checkNoObj(t, "another sum of "+what, append(bytes.Clone(b[:end]), wordBytes(impl.Wrap(n))...))
		}
		if b[end] == b[end+1] {
			t.Error("the sum of", what, "is of two bytes that are alike")
		}
		checkNoObj(t, "the sum turned round of "+what, append(bytes.Clone(b[:end]), b[end+1], b[end]))
		checkNoObj(t, "no sum of "+what, b[:end])
		checkNoObj(t, "half the sum of "+what, b[:end+1])
		checkNoObj(t, "the sum twice of "+what, append(bytes.Clone(b), b[end:]...))
	}
}

func TestBytesThatGoOnBehindAModule(t *testing.T) {
	for what, o := range someObjs() {
		body := bodyBytes(o)
		for _, more := range []string{"\x00", "\x00\x00", "\x01", "\xff\xff", "\x00\x00\x00", "\x01\x00a", wordBytes(1) + "z" + wordBytes(1, 1), body} {
			checkNoObj(t, "more behind "+what, append(sealed(body), more...))
			checkNoObj(t, "more ahead of the sum of "+what, sealed(body+more))
			checkNoObj(t, "more ahead of "+what, sealed(more+body))
			if len(body)+len(more) > 2998 {
				t.Error("too much:", what)
			}
		}
	}
}

// Each beginning is none, with its own sum or with none.
func TestModulesThatEndWithin(t *testing.T) {
	for what, o := range someObjs() {
		body := bodyBytes(o)
		b := sealed(body)
		for end := range body {
			checkNoObj(t, "a beginning of "+what, b[:end])
			checkNoObj(t, "a beginning with a sum of "+what, sealed(body[:end]))
		}
	}
	for _, b := range [][]byte{nil, {}, {0}, {0, 0}, {0x77}, {0x77, 0x0b}, {0x77, 0x0b, 0x7e}, make([]byte, 8), make([]byte, 3000), make([]byte, 3001), make([]byte, 1000000)} {
		checkNoObj(t, "no module", b)
	}
}

// With a byte turned, whichever and to whatever, they do not come back.
func TestAByteTurned(t *testing.T) {
	for what, o := range someObjs() {
		b := checkObjBytes(t, what, o)
		by := []byte{1, 2, 4, 8, 16, 32, 64, 128, 255}
		if len(b) < 300 {
			by = nil
			for x := 1; x < 256; x++ {
				by = append(by, byte(x))
			}
		}
		for i := range b {
			for _, x := range by {
				b[i] ^= x
				if o, ok := impl.GetObj(b); ok || !isNoObj(o) {
					t.Errorf("%s: the byte %d turned by %d comes back: %.200s", what, i, x, objText(o))
				}
				b[i] ^= x
			}
		}
		if back, ok := impl.GetObj(b); !ok || !sameObjTold(back, o) {
			t.Error("turned back:", what)
		}
	}
}

// What is read has just these bytes when it is put again.
func TestModulesOfAnyBytes(t *testing.T) {
	next := nextOf(517)
	small := []impl.Obj{}
	for _, o := range someObjs() {
		if len(bodyBytes(o)) < 400 {
			small = append(small, o)
		}
	}
	slices.SortFunc(small, func(a, b impl.Obj) int { return strings.Compare(objText(a), objText(b)) })
	right := 0
	for range 60000 {
		b := []byte(bodyBytes(small[next(len(small))]))
		for range 1 + next(2) {
			switch at := next(len(b)); next(6) {
			case 0:
				b = slices.Delete(b, at, at+1)
			case 1:
				b = slices.Insert(b, at, byte(next(14)))
			case 2:
				b[at] = byte(next(256))
			case 3:
				b[at]++
			case 4:
				to := at + next(len(b)-at)
				b = slices.Insert(b, next(len(b)), bytes.Clone(b[at:to])...)
			default:
				b[at] = byte(next(14))
			}
		}
		b = sealed(string(b))
		want, wantOk := objTold(b)
		o, ok := impl.GetObj(b)
		if ok != wantOk || !sameObjTold(o, want) {
			t.Errorf("GetObj of %.300x: %.200s, %v, want %.200s, %v", b, objText(o), ok, objText(want), wantOk)
		}
		if !ok {
			continue
		}
		right++
		if again := impl.PutObj(o); !bytes.Equal(again, b) {
			t.Errorf("PutObj of %.200s: %.300x, want %.300x", objText(o), again, b)
		}
	}
	if right < 2500 {
		t.Error("right:", right)
	}
}

// turnedObjs are all modules that differ from o in one field, or one place, alone.
func turnedObjs(o impl.Obj) []impl.Obj {
	var l []impl.Obj
	turn := func(change func(o *impl.Obj)) {
		c := copyObj(o)
		change(&c)
		l = append(l, c)
	}
	turn(func(o *impl.Obj) { o.Sects = append(o.Sects, impl.Sect{}) })
	turn(func(o *impl.Obj) { o.Sects = append([]impl.Sect{{Name: "new"}}, o.Sects...) })
	turn(func(o *impl.Obj) { o.Globs = append(o.Globs, impl.Glob{}) })
	turn(func(o *impl.Obj) { o.Globs = append([]impl.Glob{{Name: "a"}}, o.Globs...) })
	for i := range o.Sects {
		turn(func(o *impl.Obj) { o.Sects[i].Name += "a" })
		turn(func(o *impl.Obj) { o.Sects[i].Over = !o.Sects[i].Over })
		turn(func(o *impl.Obj) { o.Sects = slices.Delete(o.Sects, i, i+1) })
		turn(func(o *impl.Obj) { o.Sects[i].Words = append(o.Sects[i].Words, impl.Expr{}) })
		turn(func(o *impl.Obj) { o.Sects[i].Words = append([]impl.Expr{{}}, o.Sects[i].Words...) })
		for j, e := range o.Sects[i].Words {
			turn(func(o *impl.Obj) { o.Sects[i].Words = slices.Delete(o.Sects[i].Words, j, j+1) })
			for _, x := range turned(e) {
				turn(func(o *impl.Obj) { o.Sects[i].Words[j] = x })
			}
		}
	}
	for i, g := range o.Globs {
		turn(func(o *impl.Obj) { o.Globs[i].Name += "a" })
		turn(func(o *impl.Obj) { o.Globs = slices.Delete(o.Globs, i, i+1) })
		for _, x := range turned(g.E) {
			turn(func(o *impl.Obj) { o.Globs[i].E = x })
		}
	}
	return l
}

// objOfEach has something at each place where something can be, no two alike.
func objOfEach() impl.Obj {
	return impl.Obj{
		Sects: []impl.Sect{
			{Name: "code", Words: []impl.Expr{numExpr(5), plus(sectExpr(1), 2), pairExpr(impl.XDiv, negExpr(globExpr("x")), pairExpr(impl.XAnd, globExpr("y"), negExpr(negExpr(negExpr(sectExpr(0))))))}},
			{Name: "over1", Over: true, Words: []impl.Expr{globExpr("sixlet")}},
			{Name: "none"},
		},
		Globs: []impl.Glob{{Name: "a", E: numExpr(7)}, {Name: "b", E: plus(sectExpr(2), 4)}, {Name: "c", E: pairExpr(impl.XMul, globExpr("x"), negExpr(globExpr("y")))}},
	}
}

func TestModulesThatDifferInOneField(t *testing.T) {
	o := objOfEach()
	checkObjOk(t, "that of each", o, true)
	l := turnedObjs(o)
	if len(l) < 130 {
		t.Error("turned:", len(l))
	}
	for _, x := range l {
		checkSameObj(t, "one field turned: "+fmt.Sprint(x), o, x, false)
		checkSameObj(t, "itself: "+fmt.Sprint(x), x, copyObj(x), true)
	}
	for i, x := range l {
		for j, y := range l {
			checkSameObj(t, fmt.Sprint("two turned: ", i, " ", j), x, y, sameObjTold(x, y))
		}
	}
	for what, o := range someObjs() {
		checkSameObj(t, what, o, copyObj(o), true)
		for what2, x := range someObjs() {
			checkSameObj(t, what+" and "+what2, o, x, what == what2)
		}
	}
}

func TestTheOrderOfAModuleCounts(t *testing.T) {
	for i := range 3 {
		for j := range i {
			o, x, y := objOfEach(), objOfEach(), objOfEach()
			x.Sects[i], x.Sects[j] = x.Sects[j], x.Sects[i]
			y.Globs[i], y.Globs[j] = y.Globs[j], y.Globs[i]
			checkSameObj(t, "sections turned round", o, x, false)
			checkSameObj(t, "names turned round", o, y, false)
			x, y = objOfEach(), objOfEach()
			l := x.Sects[0].Words
			l[i], l[j] = l[j], l[i]
			checkSameObj(t, "words turned round", o, x, false)
			y.Globs[i].E, y.Globs[j].E = y.Globs[j].E, y.Globs[i].E
			checkSameObj(t, "worths turned round", o, y, false)
			y = objOfEach()
			y.Sects[i].Words, y.Sects[j].Words = y.Sects[j].Words, y.Sects[i].Words
			checkSameObj(t, "lists of words turned round", o, y, false)
		}
	}
	// What stands here in the one and there in the other.
	one := numExpr(1)
	for what, l := range map[string][2]impl.Obj{
		"a section, and a name":  {{Sects: []impl.Sect{{Name: "a", Words: []impl.Expr{one}}}}, {Globs: []impl.Glob{{Name: "a", E: one}}}},
		"words of two sections":  {{Sects: []impl.Sect{{Name: "a", Words: []impl.Expr{one}}, {Name: "b"}}}, {Sects: []impl.Sect{{Name: "a"}, {Name: "b", Words: []impl.Expr{one}}}}},
		"names that go on":       {{Sects: []impl.Sect{{Name: "a"}, {Name: "bc"}}}, {Sects: []impl.Sect{{Name: "ab"}, {Name: "c"}}}},
		"nothing, and a section": {{}, {Sects: []impl.Sect{{}}}},
		"nothing, and a name":    {{}, {Globs: []impl.Glob{{}}}},
		"nothing, over and not":  {{Sects: []impl.Sect{{}}}, {Sects: []impl.Sect{{Over: true}}}},
		"no word, and one of 0":  {{Sects: []impl.Sect{{}}}, {Sects: []impl.Sect{{Words: []impl.Expr{{}}}}}},
		"one word, and two of 0": {{Sects: []impl.Sect{{Words: []impl.Expr{{}}}}}, {Sects: []impl.Sect{{Words: []impl.Expr{{}, {}}}}}},
		"a term, and one within": {{Globs: []impl.Glob{{E: impl.Expr{}}}}, {Globs: []impl.Glob{{E: impl.Expr{L: []impl.Expr{{}}}}}}},
	} {
		checkSameObj(t, what, l[0], l[1], false)
	}
}

func TestEmptyListsOfModules(t *testing.T) {
	none := impl.Obj{}
	empty := impl.Obj{Sects: []impl.Sect{}, Globs: make([]impl.Glob, 0, 3)}
	checkSameObj(t, "empty lists", none, empty, true)
	a := impl.Obj{Sects: []impl.Sect{{Name: "a"}}, Globs: []impl.Glob{{Name: "a", E: numExpr(1)}}}
	b := impl.Obj{Sects: []impl.Sect{{Name: "a", Words: make([]impl.Expr, 0, 3)}}, Globs: []impl.Glob{{Name: "a", E: impl.Expr{K: impl.XNum, N: 1, L: []impl.Expr{}}}}}
	checkSameObj(t, "empty lists within", a, b, true)
	if !bytes.Equal(impl.PutObj(a), impl.PutObj(b)) || !bytes.Equal(impl.PutObj(none), impl.PutObj(empty)) {
		t.Error("empty lists and none have other bytes")
	}
}

// Modules that are not right are held against each other field by field, too.
func TestSameModulesThatAreNotRight(t *testing.T) {
	for what, o := range wrongObjs() {
		checkSameObj(t, what, o, copyObj(o), true)
		checkSameObj(t, what, o, objOfEach(), false)
		checkSameObj(t, what, o, impl.Obj{}, false)
	}
	objs := func(e impl.Expr) []impl.Obj {
		return []impl.Obj{{Sects: []impl.Sect{{Name: "a", Words: slices.Repeat([]impl.Expr{e}, 3000)}}}, {Globs: slices.Repeat([]impl.Glob{{Name: "a", E: e}}, 3000)}}
	}
	for i := range 2 {
		checkSameObj(t, "rings", objs(ring(3, hereExpr))[i], objs(ring(4, hereExpr))[i], true)
		checkSameObj(t, "other rings", objs(ring(3, hereExpr))[i], objs(ring(3, numExpr(1)))[i], false)
		checkSameObj(t, "long chains", objs(chain(50000, hereExpr))[i], objs(chain(50000, hereExpr))[i], true)
		checkSameObj(t, "other chains", objs(chain(50000, hereExpr))[i], objs(chain(50000, numExpr(1)))[i], false)
		checkSameObj(t, "terms of many", objs(doubled(100, hereExpr))[i], objs(doubled(100, hereExpr))[i], true)
	}
	var many impl.Obj
	for range 100000 {
		many.Sects = append(many.Sects, impl.Sect{Name: strings.Repeat("b", 7), Words: []impl.Expr{numExpr(-1)}})
		many.Globs = append(many.Globs, impl.Glob{})
	}
	checkSameObj(t, "many", many, copyObj(many), true)
	other := copyObj(many)
	other.Globs[99999].Name = "a"
	checkSameObj(t, "many, the last name turned", many, other, false)
}

func roomOfBytes(b []byte) room {
	from := uintptr(unsafe.Pointer(unsafe.SliceData(b)))
	return room{from, from + uintptr(cap(b))}
}

func TestBytesOfTermsAreNewMemory(t *testing.T) {
	for _, e := range []impl.Expr{numExpr(0x1234), symExpr(strings.Clone("sixlet")), hereExpr, fullTerm(), {}} {
		for _, before := range [][]byte{{}, {1}, {1, 2, 3}} {
			b := withRoom(before)
			one, two := impl.PutExpr(b, e), impl.PutExpr(b, e)
			three := impl.PutExpr(b[:len(b):len(b)], e)
			want := bytes.Clone(two)
			checkUntouched(t, b, before)
			var rooms []room
			for _, x := range [][]byte{b, one, two, three} {
				if cap(x) > 0 {
					rooms = append(rooms, roomOfBytes(x))
				}
			}
			checkRoomsApart(t, rooms)
			one = one[:cap(one)]
			for i := range one {
				one[i] = 0x55
			}
			checkUntouched(t, b, before)
			if !bytes.Equal(two, want) || !bytes.Equal(three, want) {
				t.Error("two answers share memory")
			}
		}
	}
	was := fullTerm()
	e := roomyExpr(was)
	if got := impl.PutExpr(nil, e); string(got) != exprBytes(was) {
		t.Errorf("PutExpr with room behind: %x", got)
	}
	checkRoomy(t, e, was)
}

func TestTermsReadAreNewMemory(t *testing.T) {
	want := pairExpr(impl.XSub, fullTree(5, func() impl.Expr { return symExpr("sixlet") }), negExpr(pairExpr(impl.XMul, globExpr("name"), globExpr("name"))))
	before := []byte("\x09" + exprBytes(want))
	b := withRoom(before)
	one, next, ok := impl.GetExpr(b, 1)
	two, _, _ := impl.GetExpr(b, 1)
	if !ok || next != len(b) || !sameTerm(one, want) {
		t.Fatal("GetExpr", one, next, ok)
	}
	checkUntouched(t, b, before)
	rooms := append(roomsOf(one), roomsOf(two)...)
	checkRoomsApart(t, append(rooms, roomOfBytes(b)))
	for _, name := range namesOf(one) {
		if shareText(name, unsafe.String(unsafe.SliceData(b), cap(b))) {
			t.Errorf("%q shares the bytes' memory", name)
		}
	}
	clear(b)
	scribble(one)
	if !sameTerm(two, want) {
		t.Error("answers share memory")
	}
}

// roomyObj has room behind each list, in which something stands that is not right.
func roomyObj(o impl.Obj) impl.Obj {
	r := impl.Obj{Sects: make([]impl.Sect, 0, len(o.Sects)+2), Globs: make([]impl.Glob, 0, len(o.Globs)+2)}
	for _, x := range o.Sects {
		x.Words = roomyExpr(impl.Expr{L: x.Words}).L
		r.Sects = append(r.Sects, x)
	}
	for _, x := range o.Globs {
		r.Globs = append(r.Globs, impl.Glob{Name: x.Name, E: roomyExpr(x.E)})
	}
	r.Sects = append(r.Sects, impl.Sect{Name: "code"}, impl.Sect{Name: "mov"})[:len(o.Sects)]
	r.Globs = append(r.Globs, impl.Glob{Name: "a"}, impl.Glob{Name: "behind"})[:len(o.Globs)]
	return r
}

func checkRoomyObj(t *testing.T, o, was impl.Obj) {
	t.Helper()
	if !sameObjTold(o, was) {
		t.Error("an argument is written")
	}
	for i, x := range was.Sects {
		checkRoomy(t, impl.Expr{L: o.Sects[i].Words}, impl.Expr{L: x.Words})
	}
	for i, x := range was.Globs {
		checkRoomy(t, o.Globs[i].E, x.E)
	}
	sects, globs := o.Sects[len(o.Sects):len(o.Sects)+2], o.Globs[len(o.Globs):len(o.Globs)+2]
	if sects[0].Name != "code" || sects[1].Name != "mov" || globs[0].Name != "a" || globs[1].Name != "behind" || len(sects[0].Words)+len(sects[1].Words) > 0 {
		t.Error("what lies behind a list is written")
	}
}

// Neither arguments are written, nor what lies behind their lists, which is not read, either.
func TestPuttingModulesWritesNothing(t *testing.T) {
	objs := someObjs()
	objs["of each"] = objOfEach()
	for what, was := range objs {
		o, other := roomyObj(was), roomyObj(was)
		if b := impl.PutObj(o); !bytes.Equal(b, sealed(bodyBytes(was))) {
			t.Errorf("PutObj of %s with room behind: %.200x", what, b)
		}
		checkSameObj(t, what, o, other, true)
		checkSameObj(t, what, o, was, true)
		checkRoomyObj(t, o, was)
		checkRoomyObj(t, other, was)
		before := sealed(bodyBytes(was))
		b := withRoom(before)
		if back, ok := impl.GetObj(b); !ok || !sameObjTold(back, was) {
			t.Errorf("GetObj of %s with room behind: %s, %v", what, objText(back), ok)
		}
		checkUntouched(t, b, before)
		// What lies behind the bytes would make them right.
		checkNoObj(t, "what ends within", before[:len(before)-1])
		checkNoObj(t, "what ends within", before[:len(before)-2])
	}
	for what, o := range wrongObjs() {
		r := roomyObj(o)
		checkNotPutObj(t, what, r)
		checkRoomyObj(t, r, o)
	}
}

func TestModulesReadAreNewMemory(t *testing.T) {
	o := objOfEach()
	o.Sects[2].Words = []impl.Expr{fullTerm(), globExpr("sixlet"), globExpr("sixlet")}
	before := impl.PutObj(o)
	b := withRoom(before)
	one, ok := impl.GetObj(b)
	two, _ := impl.GetObj(b)
	if !ok || !sameObjTold(one, o) {
		t.Fatal("GetObj", objText(one), ok)
	}
	rooms := append(roomsOfObj(one), roomsOfObj(two)...)
	if len(rooms) < 50 {
		t.Error("lists:", len(rooms))
	}
	checkRoomsApart(t, append(rooms, roomOfBytes(b)))
	for _, name := range namesOfObj(one) {
		if shareText(name, unsafe.String(unsafe.SliceData(b), cap(b))) {
			t.Errorf("%q shares the bytes' memory", name)
		}
	}
	clear(b[:cap(b)])
	for _, x := range one.Sects {
		scribble(impl.Expr{L: x.Words})
	}
	for _, x := range one.Globs {
		scribble(x.E)
	}
	clear(one.Sects[:cap(one.Sects)])
	clear(one.Globs[:cap(one.Globs)])
	if !sameObjTold(two, o) {
		t.Errorf("answers share memory: %s", objText(two))
	}
	// The bytes, too, are apart from each other.
	x, y := impl.PutObj(o), impl.PutObj(o)
	checkRoomsApart(t, []room{roomOfBytes(x), roomOfBytes(y)})
	clear(x[:cap(x)])
	if !bytes.Equal(y, before) || !bytes.Equal(impl.PutObj(o), before) {
		t.Error("bytes share memory")
	}
}

// Nothing is kept from one call to the next, not of what is refused, either.
func TestBytesHangOnNothingAhead(t *testing.T) {
	o := objOfEach()
	b := sealed(bodyBytes(o))
	for range 3 {
		checkObjBytes(t, "that of each", o)
		checkNoObj(t, "a beginning", b[:len(b)-1])
		checkNotPutObj(t, "no module", impl.Obj{Sects: []impl.Sect{{}}})
		checkObjBytes(t, "nothing", impl.Obj{})
		checkNotPut(t, impl.Expr{})
		checkExprBytes(t, fullTerm())
		checkNoExpr(t, []byte(wordBytes(4, 4, 2, 3)), 0)
		checkNoExpr(t, []byte(wordBytes(11, 10)), 0)
		checkExprBytes(t, sectExpr(9))
		checkSameObj(t, "itself", o, objOfEach(), true)
		checkSameObj(t, "nothing", o, impl.Obj{}, false)
	}
}

// Bytes are cut by three indexes.
func TestBytesAreCutByThreeIndexes(t *testing.T) {
	_, files := programFiles(t)
	f := files["l17_obj.go"]
	if f == nil {
		t.Fatal("no l17_obj.go")
	}
	cuts := 0
	ast.Inspect(f, func(n ast.Node) bool {
		if x, ok := n.(*ast.SliceExpr); ok && x.Slice3 {
			cuts++
		}
		return true
	})
	if cuts == 0 {
		t.Error("no bytes are cut by three indexes")
	}
}
