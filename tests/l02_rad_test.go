package tests

import (
	"math"
	"slices"
	"strings"
	"testing"

	"loop.example/g00329/impl"
)

// letterNumbers is written out as the document tells it, apart from what the program has.
func letterNumbers() map[byte]int {
	n := map[byte]int{' ': 0, '$': 27, '.': 28}
	for i := range 26 {
		n[byte('a'+i)] = 1 + i
	}
	for i := range 10 {
		n[byte('0'+i)] = 30 + i
	}
	return n
}

func checkRad(t *testing.T, s string, want ...int) {
	t.Helper()
	l, ok := impl.PutRad(s)
	if !ok || !slices.Equal(l, want) {
		t.Errorf("PutRad of %q: %v, %v, want %v", s, l, ok, want)
	}
	if back, ok := impl.GetRad(want); !ok || back != strings.TrimRight(s, " ") {
		t.Errorf("GetRad of %v: %q, %v, want %q without blanks at the end", want, back, ok, s)
	}
}

func checkNoRad(t *testing.T, s string) {
	t.Helper()
	if l, ok := impl.PutRad(s); ok || len(l) != 0 {
		t.Errorf("PutRad of %q: %v, %v", s, l, ok)
	}
}

func checkNoLetters(t *testing.T, l ...int) {
	t.Helper()
	if s, ok := impl.GetRad(l); ok || s != "" {
		t.Errorf("GetRad of %v: %q, %v", l, s, ok)
	}
}

func TestLettersAtEachPlace(t *testing.T) {
	for c, n := range letterNumbers() {
		s := string(c)
		checkRad(t, s, n*1600)
		checkRad(t, "a"+s, 1600+n*40)
		checkRad(t, "ab"+s, 1680+n)
		checkRad(t, "abc"+s, 1683, n*1600)
		checkRad(t, "abcd"+s, 1683, 6400+n*40)
		checkRad(t, "abcde"+s, 1683, 6600+n)
	}
}

func TestTextsOfEachLength(t *testing.T) {
	checkRad(t, "")
	checkRad(t, "z", 41600)
	checkRad(t, "z9", 43160)
	checkRad(t, "z9$", 43187)
	checkRad(t, "z9$.", 43187, 44800)
	checkRad(t, "z9$.0", 43187, 46000)
	checkRad(t, "z9$.0a", 43187, 46001)
	checkRad(t, "999999", 63999, 63999)
}

func TestBlanks(t *testing.T) {
	checkRad(t, " ", 0)
	checkRad(t, "  ", 0)
	checkRad(t, "   ", 0)
	checkRad(t, "    ", 0, 0)
	checkRad(t, "      ", 0, 0)
	checkRad(t, "a ", 1600)
	checkRad(t, "a  ", 1600)
	checkRad(t, "a   ", 1600, 0)
	checkRad(t, "a     ", 1600, 0)
	checkRad(t, "abc ", 1683, 0)
	checkRad(t, "abcd  ", 1683, 6400)
	checkRad(t, " a", 40)
	checkRad(t, "  a", 1)
	checkRad(t, "   a", 0, 1600)
	checkRad(t, "     a", 0, 1)
	checkRad(t, "a b", 1602)
	checkRad(t, "a  b", 1600, 3200)
	checkRad(t, "a    b", 1600, 2)
	checkRad(t, " a  b ", 40, 80)
}

func TestEveryWordOfLetters(t *testing.T) {
	byNumber := map[int]byte{}
	for c, n := range letterNumbers() {
		byNumber[n] = c
	}
	for n := -70000; n <= 70000; n++ {
		first, ok1 := byNumber[n/1600]
		second, ok2 := byNumber[n/40%40]
		third, ok3 := byNumber[n%40]
		if n < 0 || n > 63999 || !ok1 || !ok2 || !ok3 {
			checkNoLetters(t, n)
			continue
		}
		whole := string([]byte{first, second, third})
		checkRad(t, whole, n)
		checkRad(t, "abc"+whole, 1683, n)
	}
}

func TestTooManyLetters(t *testing.T) {
	for _, s := range []string{"abcdefg", "abcdef ", "       ", "aaaaaaa", "abcdefghi", "abcdef-", strings.Repeat("a", 1000)} {
		checkNoRad(t, s)
	}
}

func TestEveryOtherByte(t *testing.T) {
	letters := letterNumbers()
	for i := range 256 {
		if _, ok := letters[byte(i)]; ok {
			continue
		}
		s := string([]byte{byte(i)})
		for _, text := range []string{s, "a" + s, s + "a", "ab" + s, "abc" + s, "abc" + s + "d", "abcde" + s} {
			checkNoRad(t, text)
		}
	}
}

func TestRunesThatAreNoLetters(t *testing.T) {
	for _, s := range []string{"ä", "aä", "äöü", "é.", "１", "\u00a0", "a\ufffd", "\ufffd", "\xe2\x82", "\U0001f600", "ab\xff", "ſ", "K"} {
		checkNoRad(t, s)
	}
}

func TestWordsThatAreNoLetters(t *testing.T) {
	for _, n := range []int{
		-1, -40, -1600, -1683, -64000, 29, 29 * 40, 29 * 1600, 29*1640 + 29, 1683 - 3 + 29,
		64000, 64001, 65535, 65536, 65536 + 1683, 64000 + 1683, 64000 * 40,
		math.MaxInt, math.MinInt, math.MinInt + 1683, 1 << 32, 1<<32 + 1683,
	} {
		checkNoLetters(t, n)
		checkNoLetters(t, 1683, n)
		checkNoLetters(t, n, 1683)
		checkNoLetters(t, n, n)
	}
}

func TestTooManyWords(t *testing.T) {
	checkNoLetters(t, 1683, 1683, 1683)
	checkNoLetters(t, 1683, 0, 0)
	checkNoLetters(t, 0, 0, 0)
	checkNoLetters(t, make([]int, 100)...)
}

func TestNoWordsAreNoLetters(t *testing.T) {
	for _, l := range [][]int{nil, {}, []int{29, 29}[:0]} {
		if s, ok := impl.GetRad(l); !ok || s != "" {
			t.Errorf("GetRad of nothing: %q, %v", s, ok)
		}
	}
}

func TestRadIsNewMemory(t *testing.T) {
	one, _ := impl.PutRad("abcdef")
	two, _ := impl.PutRad("abcdef")
	one = one[:cap(one)]
	for i := range one {
		one[i] = -1
	}
	if three, _ := impl.PutRad("abcdef"); !slices.Equal(two, []int{1683, 6606}) || !slices.Equal(three, two) {
		t.Errorf("answers share memory: %v, %v", two, three)
	}
	// What lies behind the length is neither read nor written.
	room := []int{1683, 6606, 29, -1}
	s, ok := impl.GetRad(room[:1])
	if s != "abc" || !ok || !slices.Equal(room, []int{1683, 6606, 29, -1}) {
		t.Errorf("GetRad of a beginning: %q, %v, leaves %v", s, ok, room)
	}
	if s, ok := impl.GetRad(room[:2]); s != "abcdef" || !ok {
		t.Errorf("GetRad of two words with others behind: %q, %v", s, ok)
	}
}
