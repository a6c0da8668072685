package tests

import (
	"bytes"
	"math"
	"strings"
	"testing"

	"loop.example/g00329/impl"
)

// withRoom is a copy of b with spare room behind it that is filled with a mark.
func withRoom(b []byte) []byte {
	room := bytes.Repeat([]byte{0xEE}, len(b)+2000)
	copy(room, b)
	return room[:len(b)]
}

// checkUntouched fails if before is no longer what b holds, or the room of withRoom was written.
func checkUntouched(t *testing.T, b, before []byte) {
	t.Helper()
	if !bytes.Equal(b, before) {
		t.Errorf("the argument was changed: %x, was %x", b, before)
	}
	for i, x := range b[len(b):cap(b)] {
		if x != 0xEE {
			t.Fatalf("spare room written at %d", i)
		}
	}
}

func TestWrapAndSigned(t *testing.T) {
	rows := []struct{ n, wrapped, signed int }{
		{0, 0, 0},
		{1, 1, 1},
		{32767, 32767, 32767},
		{32768, 32768, -32768},
		{32769, 32769, -32767},
		{65535, 65535, -1},
		{65536, 0, 0},
		{65537, 1, 1},
		{98304, 32768, -32768},
		{131071, 65535, -1},
		{-1, 65535, -1},
		{-2, 65534, -2},
		{-32767, 32769, -32767},
		{-32768, 32768, -32768},
		{-32769, 32767, 32767},
		{-65535, 1, 1},
		{-65536, 0, 0},
		{-65537, 65535, -1},
		{math.MaxInt, 65535, -1},
		{math.MinInt, 0, 0},
		{math.MinInt + 1, 1, 1},
	}
	for _, r := range rows {
		if x := impl.Wrap(r.n); x != r.wrapped {
			t.Errorf("Wrap(%d) = %d, want %d", r.n, x, r.wrapped)
		}
		if x := impl.Signed(r.n); x != r.signed {
			t.Errorf("Signed(%d) = %d, want %d", r.n, x, r.signed)
		}
	}
}

func TestEveryWordComesBackOfItsBytes(t *testing.T) {
	for n := range 65536 {
		b := impl.PutW([]byte{7}, n)
		if len(b) != 3 || b[0] != 7 || int(b[1]) != n%256 || int(b[2]) != n/256 {
			t.Fatalf("PutW of %d: %x", n, b)
		}
		if x, next, ok := impl.GetW(b, 1); x != n || next != 3 || !ok {
			t.Fatalf("GetW of %d: %d, %d, %v", n, x, next, ok)
		}
	}
}

func TestPutWWraps(t *testing.T) {
	for n, want := range map[int]string{
		-1: "\xff\xff", -2: "\xfe\xff", -65536: "\x00\x00", -32768: "\x00\x80",
		65536: "\x00\x00", 65537: "\x01\x00", 0x123456: "\x56\x34",
		math.MaxInt: "\xff\xff", math.MinInt: "\x00\x00",
	} {
		if b := impl.PutW(nil, n); string(b) != want {
			t.Errorf("PutW of %d: %x, want %x", n, b, want)
		}
	}
}

func TestGetWPlaces(t *testing.T) {
	b := []byte{1, 2, 3, 4, 5}
	for at, want := range map[int]int{0: 0x0201, 1: 0x0302, 2: 0x0403, 3: 0x0504} {
		if x, next, ok := impl.GetW(b, at); x != want || next != at+2 || !ok {
			t.Errorf("GetW at %d: %d, %d, %v", at, x, next, ok)
		}
	}
	for _, at := range []int{-1, -2, -3, 4, 5, 6, math.MaxInt, math.MaxInt - 1, math.MinInt} {
		if x, next, ok := impl.GetW(b, at); x != 0 || next != 0 || ok {
			t.Errorf("GetW at %d: %d, %d, %v", at, x, next, ok)
		}
	}
	// What lies behind the length is not read, though the capacity has it.
	for _, short := range [][]byte{nil, {}, b[:0], b[:1]} {
		for at := -1; at <= 2; at++ {
			if x, next, ok := impl.GetW(short, at); x != 0 || next != 0 || ok {
				t.Errorf("GetW of %x at %d: %d, %d, %v", short, at, x, next, ok)
			}
		}
	}
}

func TestTextsComeBackOfTheirBytes(t *testing.T) {
	every := make([]byte, 256)
	for i := range every {
		every[i] = byte(i)
	}
	texts := []string{
		"", "a", "abc", "\x00", "\x00\x00", "\xff\xfe", "blank and\nline", "äöü",
		string(every), strings.Repeat("x", 255), strings.Repeat("x", 256),
		strings.Repeat("y", 999), strings.Repeat("z", 1000),
	}
	for _, s := range texts {
		for _, ahead := range []string{"", "\x09", "ahead"} {
			b := impl.PutText([]byte(ahead), s)
			want := ahead + string([]byte{byte(len(s) % 256), byte(len(s) / 256)}) + s
			if string(b) != want {
				t.Fatalf("PutText of %d bytes: %x", len(s), b)
			}
			b = append(b, "behind"...)
			got, next, ok := impl.GetText(b, len(ahead))
			if got != s || next != len(want) || !ok {
				t.Fatalf("GetText of %d bytes: %q, %d, %v", len(s), got, next, ok)
			}
		}
	}
}

func TestPutTextOfTooMuch(t *testing.T) {
	for _, size := range []int{1001, 1002, 65535, 65536, 65537, 66000} {
		s := strings.Repeat("x", size)
		if b := impl.PutText([]byte("ab"), s); string(b) != "ab" {
			t.Errorf("PutText of %d bytes: %d bytes", size, len(b))
		}
		if b := impl.PutText(nil, s); len(b) != 0 {
			t.Errorf("PutText of %d bytes to nothing: %d bytes", size, len(b))
		}
	}
}

func checkNoText(t *testing.T, b []byte, at int) {
	t.Helper()
	if s, next, ok := impl.GetText(b, at); s != "" || next != 0 || ok {
		t.Errorf("GetText of %d bytes at %d: %q, %d, %v", len(b), at, s, next, ok)
	}
}

func TestGetTextOfWhatIsCutShort(t *testing.T) {
	whole := []byte("\x05\x00hello")
	for end := range whole {
		checkNoText(t, whole[:end], 0)
	}
	for _, at := range []int{-1, -2, 1, 2, 5, 6, 7, 8, math.MaxInt, math.MaxInt - 1, math.MinInt} {
		checkNoText(t, whole, at)
	}
	checkNoText(t, nil, 0)
	checkNoText(t, []byte("\xff\xffabc"), 0)
	// An empty text may end just at the end of the bytes.
	if s, next, ok := impl.GetText([]byte{9, 0, 0}, 1); s != "" || next != 3 || !ok {
		t.Errorf("the empty text: %q, %d, %v", s, next, ok)
	}
}

func TestGetTextOfWhatNoPutTextMakes(t *testing.T) {
	most := append(impl.PutW(nil, 1000), make([]byte, 1000)...)
	if s, next, ok := impl.GetText(most, 0); len(s) != 1000 || next != 1002 || !ok {
		t.Errorf("1000 bytes: %d, %d, %v", len(s), next, ok)
	}
	for _, size := range []int{1001, 65535} {
		checkNoText(t, append(impl.PutW(nil, size), make([]byte, size)...), 0)
	}
}

func TestSumOf(t *testing.T) {
	rows := []struct {
		b    []byte
		want int
	}{
		{nil, 0},
		{[]byte{}, 0},
		{[]byte{0, 0}, 0},
		{[]byte{1}, 65535},
		{[]byte{255}, 65281},
		{[]byte{1, 2, 3}, 65530},
		{bytes.Repeat([]byte{128}, 256), 32768},
		{bytes.Repeat([]byte{255}, 257), 1},
		{bytes.Repeat([]byte{128}, 512), 0},
		{append(bytes.Repeat([]byte{128}, 512), 1), 65535},
	}
	for _, r := range rows {
		if x := impl.SumOf(r.b); x != r.want {
			t.Errorf("SumOf %d bytes = %d, want %d", len(r.b), x, r.want)
		}
	}
	// What lies behind the length does not count.
	if x := impl.SumOf([]byte{1, 2, 3}[:1]); x != 65535 {
		t.Errorf("SumOf of a beginning = %d", x)
	}
}

func TestEveryWordComesBackOfItsDigits(t *testing.T) {
	for n := range 65536 {
		s := impl.Oct(n)
		if s == "" || len(s) > 1 && s[0] == '0' {
			t.Fatalf("Oct of %d: %q", n, s)
		}
		value := 0
		for _, d := range []byte(s) {
			value = value*8 + int(d-'0')
		}
		if value != n {
			t.Fatalf("Oct of %d: %q", n, s)
		}
		if x, ok := impl.ParseOct(s); x != n || !ok {
			t.Fatalf("ParseOct of %q: %d, %v", s, x, ok)
		}
	}
}

func TestOctWraps(t *testing.T) {
	for n, want := range map[int]string{
		-1: "177777", -8: "177770", -32768: "100000", -65535: "1", -65536: "0",
		65535: "177777", 65536: "0", 65544: "10", math.MaxInt: "177777", math.MinInt: "0",
	} {
		if s := impl.Oct(n); s != want {
			t.Errorf("Oct of %d: %q, want %q", n, s, want)
		}
	}
}

func TestParseOctOfWhatIsNoWord(t *testing.T) {
	texts := []string{
		"", " ", "00", "01", "07", "000000", "0177777", "0000000000000000000001",
		"8", "9", "18", "81", "a", "1a", "a1", " 1", "1 ", "1\n", "\x001", "1\x00",
		"+1", "-1", "-0", "+0", "1_0", "0o7", "0x1", "1.0", "１", "٣",
		"200000", "177778", "277777", "777777", "1000000", "1777777", "200001",
		"2000000000000000000000", "7777777777777777777777", "1000000000000000000000000001",
	}
	for _, s := range texts {
		if x, ok := impl.ParseOct(s); x != 0 || ok {
			t.Errorf("ParseOct of %q: %d, %v", s, x, ok)
		}
	}
}

// Each answer must be memory of its own: written to, it leaves the argument and other answers as they were.
func TestPuttingIsNewMemory(t *testing.T) {
	puts := map[string]func([]byte) []byte{
		"PutW":                func(b []byte) []byte { return impl.PutW(b, 0x1234) },
		"PutText":             func(b []byte) []byte { return impl.PutText(b, "text") },
		"PutText of nothing":  func(b []byte) []byte { return impl.PutText(b, "") },
		"PutText of 1000":     func(b []byte) []byte { return impl.PutText(b, strings.Repeat("x", 1000)) },
		"PutText of too much": func(b []byte) []byte { return impl.PutText(b, strings.Repeat("x", 1001)) },
	}
	for name, put := range puts {
		t.Run(name, func(t *testing.T) {
			for _, before := range [][]byte{{}, {1}, {1, 2, 3}} {
				b := withRoom(before)
				one, two := put(b), put(b)
				want := bytes.Clone(two)
				one = one[:cap(one)]
				for i := range one {
					one[i] = 0x55
				}
				checkUntouched(t, b, before)
				if !bytes.Equal(two, want) {
					t.Error("two answers share memory")
				}
			}
		})
	}
}

func TestReadingLeavesTheBytes(t *testing.T) {
	before := []byte("\x03\x00abc")
	b := withRoom(before)
	s, _, _ := impl.GetText(b, 0)
	impl.GetW(b, 0)
	impl.SumOf(b)
	checkUntouched(t, b, before)
	clear(b)
	if s != "abc" {
		t.Errorf("the text hangs on the bytes: %q", s)
	}
}
