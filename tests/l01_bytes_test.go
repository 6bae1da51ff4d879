package tests

import (
	"encoding/binary"
	"hash/crc32"
	"math"
	"strings"
	"testing"

	"loop.example/g00542/impl"
)

func wantNum(t *testing.T, text string, at int64, want impl.NumOut) {
	t.Helper()
	if got := impl.GetNum(text, at); got != want {
		t.Errorf("GetNum(%s, %d): got %+v, want %+v", brief(text), at, got, want)
	}
}

func wantText(t *testing.T, text string, at int64, want impl.TextOut) {
	t.Helper()
	if got := impl.GetText(text, at); got != want {
		t.Errorf("GetText(%s, %d): got %s, want %s", brief(text), at, briefOut(got), briefOut(want))
	}
}

func wantUnseal(t *testing.T, text string, want impl.TextOut) {
	t.Helper()
	if got := impl.Unseal(text); got != want {
		t.Errorf("Unseal(%s): got %s, want %s", brief(text), briefOut(got), briefOut(want))
	}
}

// someNumbers: the ends of int64, the greatest and the least number of each
// count of bytes with their neighbours, and a spread between them.
func someNumbers() []int64 {
	all := []int64{0, 1, -1, 2, -2, math.MaxInt64, math.MaxInt64 - 1, math.MinInt64, math.MinInt64 + 1}
	for bits := 6; bits <= 62; bits += 7 {
		edge := int64(1) << bits
		all = append(all, edge-1, edge, edge+1, -edge-1, -edge, -edge+1)
	}
	spread := uint64(1)
	for i := range 2000 {
		spread = spread*6364136223846793005 + 1442695040888963407
		all = append(all, int64(spread)>>(i%64))
	}
	return all
}

// mixedText: a text of that length in which each byte value comes, not in order.
func mixedText(length int) string {
	b := make([]byte, length)
	for i := range b {
		b[i] = byte(i*167 + i/256 + 13)
	}
	return string(b)
}

func TestPutNumWritesTheBytesOfTheDocument(t *testing.T) {
	ff := strings.Repeat("\xff", 8)
	for _, c := range []struct {
		n    int64
		want string
	}{
		{0, "\x00"}, {-1, "\x01"}, {1, "\x02"}, {-2, "\x03"},
		{63, "\x7e"}, {-64, "\x7f"}, {64, "\x80\x01"}, {-65, "\x81\x01"},
		{150, "\xac\x02"}, {8191, "\xfe\x7f"}, {8192, "\x80\x80\x01"},
		{math.MaxInt64, "\xfe" + ff + "\x01"}, {math.MinInt64, "\xff" + ff + "\x01"},
	} {
		if got := impl.PutNum(c.n); got != c.want {
			t.Errorf("PutNum(%d): got %q, want %q", c.n, got, c.want)
		}
	}
}

func TestPutNumTakesAsFewBytesAsMayBe(t *testing.T) {
	for count := 1; count <= 9; count++ {
		edge := int64(1) << (7*count - 1)
		for n, want := range map[int64]int{edge - 1: count, -edge: count, edge: count + 1, -edge - 1: count + 1} {
			if got := len(impl.PutNum(n)); got != want {
				t.Errorf("PutNum(%d) has %d bytes, want %d", n, got, want)
			}
		}
	}
}

func TestNumbersComeBack(t *testing.T) {
	for _, n := range someNumbers() {
		written := impl.PutNum(n)
		if want := string(binary.AppendVarint(nil, n)); written != want {
			t.Errorf("PutNum(%d): got %q, want %q", n, written, want)
		}
		end := int64(len(written))
		wantNum(t, written, 0, impl.NumOut{N: n, At: end})
		wantNum(t, "\xff\x80"+written+"\x81\x00", 2, impl.NumOut{N: n, At: end + 2})
	}
}

func TestNumbersInARowComeBack(t *testing.T) {
	all := someNumbers()[:200]
	row := ""
	for _, n := range all {
		row += impl.PutNum(n)
	}
	at := int64(0)
	for _, n := range all {
		got := impl.GetNum(row, at)
		if got.N != n || got.Code != impl.OK {
			t.Fatalf("at %d: got %+v, want %d", at, got, n)
		}
		at = got.At
	}
	if at != int64(len(row)) {
		t.Errorf("the row ends at %d, want %d", at, len(row))
	}
}

func TestACutNumberIsShort(t *testing.T) {
	short := impl.NumOut{Code: impl.ErrShort}
	for _, n := range someNumbers() {
		written := impl.PutNum(n)
		for cut := range len(written) {
			wantNum(t, written[:cut], 0, short)
		}
	}
	wantNum(t, strings.Repeat("\x80", 9), 0, short)
	wantNum(t, strings.Repeat("\xff", 9), 0, short)
	wantNum(t, "\x00\x80", 1, short)
}

func TestPlacesOfNumbers(t *testing.T) {
	for _, text := range []string{"", "\x02", "\x02\x04\x06"} {
		length := int64(len(text))
		for _, at := range []int64{-1, -2, math.MinInt64} {
			wantNum(t, text, at, impl.NumOut{Code: impl.ErrForm})
			wantText(t, text, at, impl.TextOut{Code: impl.ErrForm})
		}
		for _, at := range []int64{length, length + 1, length + 100, math.MaxInt64 - 1, math.MaxInt64} {
			wantNum(t, text, at, impl.NumOut{Code: impl.ErrShort})
			wantText(t, text, at, impl.TextOut{Code: impl.ErrShort})
		}
	}
	wantNum(t, "\x02\x04\x06", 2, impl.NumOut{N: 3, At: 3})
}

func TestTheTenthByte(t *testing.T) {
	bad := impl.NumOut{Code: impl.ErrSyntax}
	ones, noughts := strings.Repeat("\xff", 9), strings.Repeat("\x80", 9)
	wantNum(t, ones+"\x01", 0, impl.NumOut{N: math.MinInt64, At: 10})
	wantNum(t, noughts+"\x01", 0, impl.NumOut{N: 1 << 62, At: 10})
	for _, nine := range []string{ones, noughts} {
		wantNum(t, nine+"\x00", 0, bad)
		for tenth := 2; tenth < 256; tenth++ {
			wantNum(t, nine+string([]byte{byte(tenth)}), 0, bad)
			wantNum(t, nine+string([]byte{byte(tenth)})+"\x01", 0, bad)
		}
	}
	wantNum(t, strings.Repeat("\x80", 11)+"\x01", 0, bad)
	wantText(t, ones+"\x02", 0, impl.TextOut{Code: impl.ErrSyntax})
}

func TestNeedlessBytes(t *testing.T) {
	for count := 1; count <= 9; count++ {
		for _, fill := range []string{"\x80", "\x81", "\xff"} {
			text := strings.Repeat(fill, count) + "\x00"
			wantNum(t, text, 0, impl.NumOut{Code: impl.ErrSyntax})
			wantText(t, text+"abc", 0, impl.TextOut{Code: impl.ErrSyntax})
		}
	}
	wantNum(t, "\x00\x00", 0, impl.NumOut{N: 0, At: 1})
}

func TestTooLongATextIsRefusedAheadOfAllElse(t *testing.T) {
	full, over := strings.Repeat("\x02", impl.MaxBytes), strings.Repeat("\x02", impl.MaxBytes+1)
	wantNum(t, full, impl.MaxBytes-1, impl.NumOut{N: 1, At: impl.MaxBytes})
	wantText(t, full, impl.MaxBytes-2, impl.TextOut{Text: "\x02", At: impl.MaxBytes})
	for _, at := range []int64{0, -1, impl.MaxBytes, impl.MaxBytes + 1} {
		wantNum(t, over, at, impl.NumOut{Code: impl.ErrSize})
		wantText(t, over, at, impl.TextOut{Code: impl.ErrSize})
	}
	wantNum(t, full, -1, impl.NumOut{Code: impl.ErrForm})
}

func TestPutTextWritesLengthAndText(t *testing.T) {
	for _, c := range []struct{ text, want string }{
		{"", "\x00"}, {"ab", "\x04ab"}, {"\x00\xff", "\x04\x00\xff"},
		{strings.Repeat("x", 63), "\x7e" + strings.Repeat("x", 63)},
		{strings.Repeat("x", 64), "\x80\x01" + strings.Repeat("x", 64)},
		{strings.Repeat("x", impl.MaxBytes), "\x80\x7d" + strings.Repeat("x", impl.MaxBytes)},
		{strings.Repeat("x", impl.MaxBytes+1), ""},
	} {
		if got := impl.PutText(c.text); got != c.want {
			t.Errorf("PutText(%s): got %s, want %s", brief(c.text), brief(got), brief(c.want))
		}
	}
}

func TestTextsThatFitInComeBack(t *testing.T) {
	for _, length := range []int{0, 1, 2, 63, 64, 127, 128, 300, impl.MaxBytes - 4, impl.MaxBytes - 3, impl.MaxBytes - 2} {
		inner := mixedText(length)
		written := impl.PutText(inner)
		wantText(t, written, 0, impl.TextOut{Text: inner, At: int64(len(written))})
		if length < impl.MaxBytes-4 {
			wantText(t, "\xff\xff"+written+"\x80", 2, impl.TextOut{Text: inner, At: int64(len(written)) + 2})
		}
	}
	for _, length := range []int{impl.MaxBytes - 1, impl.MaxBytes} {
		wantText(t, impl.PutText(mixedText(length)), 0, impl.TextOut{Code: impl.ErrSize})
	}
}

func TestACutTextIsShort(t *testing.T) {
	for _, length := range []int{1, 2, 63, 64, 200} {
		written := impl.PutText(mixedText(length))
		for cut := range len(written) {
			wantText(t, written[:cut], 0, impl.TextOut{Code: impl.ErrShort})
		}
	}
	wantText(t, impl.PutNum(impl.MaxBytes)+mixedText(impl.MaxBytes-2), 0, impl.TextOut{Code: impl.ErrShort})
}

func TestLengthsThatNoTextHas(t *testing.T) {
	for _, length := range []int64{-1, -2, math.MinInt64, impl.MaxBytes + 1, math.MaxInt64, 1 << 32} {
		for _, behind := range []string{"", "ab", mixedText(100)} {
			wantText(t, impl.PutNum(length)+behind, 0, impl.TextOut{Code: impl.ErrSyntax})
		}
	}
	wantText(t, impl.PutNum(impl.MaxBytes), 0, impl.TextOut{Code: impl.ErrShort})
	wantText(t, impl.PutNum(0), 0, impl.TextOut{At: 1})
}

func TestNameRight(t *testing.T) {
	right := []string{"a", "z", "a9", "a_", "a__0", "abcdefghijklmnopqrst", "uvwxyz_0123456789"}
	wrong := []string{"", "_", "0", "_a", "9a", "A", "aB", "a b", "a-b", "a ", " a", "a\n", "a\x00", "\xc3\xa4", "a\xc3\xa4",
		"a`", "a{", "a/", "a:", "`a", "{a", "abcdefghijklmnopqrstu", strings.Repeat("a", impl.MaxBytes), strings.Repeat("a", impl.MaxBytes+1)}
	for _, name := range right {
		if !impl.NameRight(name) {
			t.Errorf("NameRight(%s): got false", brief(name))
		}
	}
	for _, name := range wrong {
		if impl.NameRight(name) {
			t.Errorf("NameRight(%s): got true", brief(name))
		}
	}
}

func TestNameRightOfEachByte(t *testing.T) {
	for b := range 256 {
		letter := b >= 'a' && b <= 'z'
		inside := letter || b >= '0' && b <= '9' || b == '_'
		one := string([]byte{byte(b)})
		if got := impl.NameRight(one); got != letter {
			t.Errorf("NameRight(%q): got %v", one, got)
		}
		if got := impl.NameRight("a" + one + "a"); got != inside {
			t.Errorf("NameRight(%q): got %v", "a"+one+"a", got)
		}
	}
}

func TestCrc(t *testing.T) {
	for text, want := range map[string]int64{"": 0, "a": 0xE8B7BE43, "123456789": 0xCBF43926, "\x00": 0xD202EF8D, "\xff\xff\xff\xff": 0xFFFFFFFF} {
		if got := impl.Crc(text); got != want {
			t.Errorf("Crc(%q): got %d, want %d", text, got, want)
		}
	}
	for _, length := range []int{1, 2, 3, 255, 256, 1000, impl.MaxBytes - 1, impl.MaxBytes} {
		text := mixedText(length)
		if got, want := impl.Crc(text), int64(crc32.ChecksumIEEE([]byte(text))); got != want {
			t.Errorf("Crc(%s): got %d, want %d", brief(text), got, want)
		}
	}
	if got := impl.Crc(mixedText(impl.MaxBytes + 1)); got != 0 {
		t.Errorf("Crc of one byte too many: got %d, want 0", got)
	}
}

func TestACrcGoesOnFromTextToText(t *testing.T) {
	text := mixedText(300)
	for cut := 0; cut <= len(text); cut++ {
		if got, want := impl.CrcMore(impl.Crc(text[:cut]), text[cut:]), impl.Crc(text); got != want {
			t.Errorf("CrcMore behind %d bytes: got %d, want %d", cut, got, want)
		}
	}
	three := impl.CrcMore(impl.CrcMore(impl.Crc(text[:7]), text[7:100]), text[100:])
	if three != impl.Crc(text) {
		t.Errorf("CrcMore of three texts: got %d, want %d", three, impl.Crc(text))
	}
	full := mixedText(impl.MaxBytes)
	if got, want := impl.CrcMore(impl.Crc(full), full), int64(crc32.ChecksumIEEE([]byte(full+full))); got != want {
		t.Errorf("CrcMore of two whole texts: got %d, want %d", got, want)
	}
}

func TestCrcMoreAtItsLimits(t *testing.T) {
	const most = 1<<32 - 1
	for _, crc := range []int64{0, 1, most - 1, most} {
		if got, want := impl.CrcMore(crc, "ab"), int64(crc32.Update(uint32(crc), crc32.IEEETable, []byte("ab"))); got != want {
			t.Errorf("CrcMore(%d, ab): got %d, want %d", crc, got, want)
		}
		if got := impl.CrcMore(crc, ""); got != crc {
			t.Errorf("CrcMore(%d) of the empty text: got %d", crc, got)
		}
		if got := impl.CrcMore(crc, mixedText(impl.MaxBytes+1)); got != 0 {
			t.Errorf("CrcMore(%d) of one byte too many: got %d, want 0", crc, got)
		}
	}
	for _, crc := range []int64{-1, -2, math.MinInt64, most + 1, most + 2, math.MaxInt64} {
		for _, text := range []string{"", "ab", mixedText(impl.MaxBytes + 1)} {
			if got := impl.CrcMore(crc, text); got != 0 {
				t.Errorf("CrcMore(%d, %s): got %d, want 0", crc, brief(text), got)
			}
		}
	}
}

func TestSealedTextsComeBack(t *testing.T) {
	if got, want := impl.Seal("123456789"), "123456789\x26\x39\xf4\xcb"; got != want {
		t.Errorf("Seal: got %q, want %q", got, want)
	}
	for _, length := range []int{0, 1, 3, 4, 5, 256, impl.MaxBytes - 5, impl.MaxBytes - 4} {
		text := mixedText(length)
		sealed := impl.Seal(text)
		if len(sealed) != length+4 || !strings.HasPrefix(sealed, text) {
			t.Errorf("Seal(%s): got %s", brief(text), brief(sealed))
		}
		wantUnseal(t, sealed, impl.TextOut{Text: text})
	}
	wantUnseal(t, impl.Seal(impl.Seal("ab")), impl.TextOut{Text: impl.Seal("ab")})
}

func TestSealOfTooManyBytes(t *testing.T) {
	for _, length := range []int{impl.MaxBytes - 3, impl.MaxBytes, impl.MaxBytes + 1} {
		if got := impl.Seal(mixedText(length)); got != "" {
			t.Errorf("Seal of %d bytes: got %s, want none", length, brief(got))
		}
	}
}

func TestASealWithOneByteTurnedIsRefused(t *testing.T) {
	for _, text := range []string{"", "a", "\x00\x00", "who talks to whom"} {
		sealed := impl.Seal(text)
		for at := range len(sealed) {
			for turn := 1; turn < 256; turn++ {
				wantUnseal(t, turned(sealed, at, byte(turn)), impl.TextOut{Code: impl.ErrSum})
			}
		}
	}
	long := impl.Seal(mixedText(impl.MaxBytes - 4))
	for at := 0; at < len(long); at += 13 {
		wantUnseal(t, turned(long, at, byte(1<<(at%8))), impl.TextOut{Code: impl.ErrSum})
	}
}

func turned(text string, at int, turn byte) string {
	b := []byte(text)
	b[at] ^= turn
	return string(b)
}

func TestUnsealOfWhatIsNoSeal(t *testing.T) {
	for _, text := range []string{"", "\x00", "\x00\x00", "\x00\x00\x00", "abc"} {
		wantUnseal(t, text, impl.TextOut{Code: impl.ErrShort})
	}
	wantUnseal(t, "\x00\x00\x00\x00", impl.TextOut{})
	for _, text := range []string{"\x00\x00\x00\x01", "abcd", "123456789\xcb\xf4\x39\x26", impl.Seal("ab")[1:], impl.Seal("ab")[:5], impl.Seal("ab") + "\x00"} {
		wantUnseal(t, text, impl.TextOut{Code: impl.ErrSum})
	}
	wantUnseal(t, mixedText(impl.MaxBytes), impl.TextOut{Code: impl.ErrSum})

	over := mixedText(impl.MaxBytes - 3)
	crc := crc32.ChecksumIEEE([]byte(over))
	wantUnseal(t, over+string(binary.LittleEndian.AppendUint32(nil, crc)), impl.TextOut{Code: impl.ErrSize})
}
