package impl

import "strconv"

const (
	wordCount = 65536
	signFrom  = 32768
	maxText   = 1000
)

func Wrap(n int) int { return n & (wordCount - 1) }

func isWord(n int) bool { return n == Wrap(n) }

// hasSign wants a word.
func hasSign(word int) bool { return word >= signFrom }

func Signed(n int) int {
	w := Wrap(n)
	if hasSign(w) {
		return w - wordCount
	}
	return w
}

// addWords and addText write into the spare room behind b: they are for bytes of the program's own.
func addWords(b []byte, words ...int) []byte {
	for _, n := range words {
		w := Wrap(n)
		b = append(b, byte(w&255), byte(w>>8))
	}
	return b
}

func addText(b []byte, s string) []byte { return append(addWords(b, len(s)), s...) }

// putWords works on a copy: an append to b itself could write into the spare room behind it.
func putWords(b []byte, words ...int) []byte {
	out := make([]byte, len(b), len(b)+2*len(words))
	copy(out, b)
	return addWords(out, words...)
}

func PutW(b []byte, n int) []byte { return putWords(b, n) }

func GetW(b []byte, at int) (int, int, bool) {
	// Held against len(b)-2, as at+2 could wrap round.
	if at < 0 || at > len(b)-2 {
		return 0, 0, false
	}
	return int(b[at]) | int(b[at+1])<<8, at + 2, true
}

func PutText(b []byte, s string) []byte {
	if len(s) > maxText {
		return putWords(b)
	}
	return addText(putWords(b), s)
}

// GetText refuses a length above maxText, too: no PutText makes such bytes.
func GetText(b []byte, at int) (string, int, bool) {
	size, from, ok := GetW(b, at)
	if !ok || size > maxText || size > len(b)-from {
		return "", 0, false
	}
	return string(b[from : from+size]), from + size, true
}

func SumOf(b []byte) int {
	sum := 0
	for _, x := range b {
		sum += int(x)
	}
	return Wrap(-sum)
}

func Oct(n int) string { return strconv.FormatInt(int64(Wrap(n)), 8) }

func ParseOct(s string) (int, bool) {
	n, err := strconv.ParseUint(s, 8, 16)
	// Only the text that Oct writes is that of a word: this refuses needless noughts.
	if err != nil || Oct(int(n)) != s {
		return 0, false
	}
	return int(n), true
}
