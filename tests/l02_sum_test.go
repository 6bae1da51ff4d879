package tests

import (
	"encoding/binary"
	"math"
	"strings"
	"testing"

	"loop.example/g00542/impl"
)

// someWords: the ends of what a word may be with their neighbours, and a spread.
func someWords() []int64 {
	return []int64{0, 1, 2, 255, 256, 257, 4660, 32767, 32768, 43981, 65279, 65280, 65533, 65534, 65535}
}

func noWords() []int64 {
	return []int64{-1, -2, -65535, -65536, math.MinInt64, 65536, 65537, 131071, 1 << 32, math.MaxInt64}
}

// plainSum works a sum out another way: what is folded down is the rest of the
// division by 65535, but that a text which is not all 0 never sums up to 0.
func plainSum(text string) int64 {
	total := int64(0)
	for at, b := range []byte(text) {
		if at%2 == 0 {
			total += 256 * int64(b)
		} else {
			total += int64(b)
		}
	}
	if total > 0 && total%65535 == 0 {
		return 65535
	}
	return total % 65535
}

func wordText(n int64) string {
	return string(binary.BigEndian.AppendUint16(nil, uint16(n)))
}

// sumTestTexts: texts of many lengths, whole words and not, low, high and mixed.
func sumTestTexts() []string {
	all := []string{}
	for _, length := range []int{0, 1, 2, 3, 4, 5, 20, 21, 255, 256, 257, 1000, 7998, 7999, impl.MaxBytes} {
		all = append(all, mixedText(length), strings.Repeat("\x00", length), strings.Repeat("\xff", length),
			strings.Repeat("\x80", length))
		if length > 0 {
			all = append(all, mixedText(length + 7)[7:], strings.Repeat("\x00", length-1)+"\x01")
		}
	}
	return all
}

func wantSum(t *testing.T, text string, want int64) {
	t.Helper()
	if got := impl.SumOf(text); got != want {
		t.Errorf("SumOf(%s): got %d, want %d", brief(text), got, want)
	}
	if got := impl.CheckOf(text); got != 65535-want {
		t.Errorf("CheckOf(%s): got %d, want %d", brief(text), got, 65535-want)
	}
	if got := impl.CheckGood(text); got != (want == 65535) {
		t.Errorf("CheckGood(%s): got %v, with a sum of %d", brief(text), got, want)
	}
}

func TestSumsOfTheDocument(t *testing.T) {
	for text, want := range map[string]int64{
		"": 0, "\x00": 0, "\x01": 256, "\xff": 65280, "\x00\x01": 1, "\x01\x00": 256, "\x12\x34": 0x1234,
		"\x12\x34\x56": 0x1234 + 0x5600, "\x00\x01\xf2\x03\xf4\xf5\xf6\xf7": 0xddf2,
		"\x45\x00\x00\x73\x00\x00\x40\x00\x40\x11\x00\x00\xc0\xa8\x00\x01\xc0\xa8\x00\xc7": 65535 - 0xb861,
	} {
		wantSum(t, text, want)
	}
}

func TestSumsAtTheFold(t *testing.T) {
	for text, want := range map[string]int64{
		"\xff\xff":                 65535,
		"\xff\xfe\x00\x01":         65535,
		"\xff\x00\x00\xff":         65535,
		"\xff\xff\x00\x00":         65535,
		"\xff\xff\x00\x01":         1,
		"\xff\xff\x00\x02":         2,
		"\xff\xff\x01":             256,
		"\xff\xff\xff":             65280,
		"\xff\xff\xff\xff":         65535,
		"\xff\xff\xff\xff\xff\xff": 65535,
		"\x80\x00\x80\x00":         1,
		"\x80\x00\x7f\xff":         65535,
	} {
		wantSum(t, text, want)
	}
	// The first fold of this one is 65536, which is to be folded again.
	wantSum(t, "\xff\xff\xff\xff\x00\x01", 1)
	wantSum(t, strings.Repeat("\xff\xff", 3999)+"\x0f\xa0", 4000)
}

func TestSumsOfManyTexts(t *testing.T) {
	for _, text := range sumTestTexts() {
		wantSum(t, text, plainSum(text))
	}
}

func TestALastByteAloneStandsAheadOfANought(t *testing.T) {
	for _, length := range []int{1, 3, 21, 999, impl.MaxBytes - 1} {
		text := mixedText(length)
		wantSum(t, text, impl.SumOf(text+"\x00"))
	}
}

func TestSumsOfTooLongATextAreRefused(t *testing.T) {
	for _, fill := range []string{"\x00", "\xff", "\x01"} {
		wantSum(t, strings.Repeat(fill, impl.MaxBytes), plainSum(strings.Repeat(fill, impl.MaxBytes)))
		for _, length := range []int{impl.MaxBytes + 1, impl.MaxBytes + 2, 3 * impl.MaxBytes} {
			over := strings.Repeat(fill, length)
			if sum, check, good := impl.SumOf(over), impl.CheckOf(over), impl.CheckGood(over); sum != 0 || check != 0 || good {
				t.Errorf("of %d bytes: got sum %d, check %d, good %v, want 0, 0, false", length, sum, check, good)
			}
		}
	}
}

func TestSumAdd(t *testing.T) {
	for _, a := range someWords() {
		for _, b := range someWords() {
			want := plainSum(wordText(a) + wordText(b))
			if got := impl.SumAdd(a, b); got != want {
				t.Errorf("SumAdd(%d, %d): got %d, want %d", a, b, got, want)
			}
		}
	}
	for _, bad := range noWords() {
		for _, other := range append(someWords(), noWords()...) {
			if got := impl.SumAdd(bad, other); got != -1 {
				t.Errorf("SumAdd(%d, %d): got %d, want -1", bad, other, got)
			}
			if got := impl.SumAdd(other, bad); got != -1 {
				t.Errorf("SumAdd(%d, %d): got %d, want -1", other, bad, got)
			}
		}
	}
}

func TestSumAddJoinsTheSumsOfWholeWords(t *testing.T) {
	text := mixedText(301)
	for cut := 0; cut <= len(text); cut += 2 {
		if got, want := impl.SumAdd(impl.SumOf(text[:cut]), impl.SumOf(text[cut:])), impl.SumOf(text); got != want {
			t.Errorf("SumAdd of both parts at %d: got %d, want %d", cut, got, want)
		}
	}
}

func TestWordText(t *testing.T) {
	for n := range int64(65536) {
		if got := impl.WordText(n); got != wordText(n) {
			t.Fatalf("WordText(%d): got %q, want %q", n, got, wordText(n))
		}
	}
	for _, n := range noWords() {
		if got := impl.WordText(n); got != "" {
			t.Errorf("WordText(%d): got %q, want none", n, got)
		}
	}
}

func TestATextWithItsCheckBehindItIsGood(t *testing.T) {
	for _, text := range sumTestTexts() {
		if len(text)%2 == 1 || len(text)+2 > impl.MaxBytes {
			continue
		}
		check := impl.CheckOf(text)
		if !impl.CheckGood(text + impl.WordText(check)) {
			t.Errorf("%s is not good with its check %d behind it", brief(text), check)
		}
		for _, turn := range []int64{1, 2, 256, 32768} {
			if other := check ^ turn; impl.CheckGood(text + impl.WordText(other)) {
				t.Errorf("%s is good with %d behind it, which is not its check %d", brief(text), other, check)
			}
		}
	}
}

func TestATextOfMaxBytesWithItsCheckInside(t *testing.T) {
	text := mixedText(impl.MaxBytes - 2)
	whole := text + impl.WordText(impl.CheckOf(text))
	if !impl.CheckGood(whole) {
		t.Errorf("a text of %d bytes is not good", len(whole))
	}
	if impl.CheckGood(whole + "\x00") {
		t.Errorf("a text of %d bytes is good", len(whole)+1)
	}
}

func TestACheckTurnsWithAWordOfItsText(t *testing.T) {
	for _, rest := range []string{"\x00\x01", "\x01\x00", "\xff\xff", "\x00\x00\x00\x05", "\x80", mixedText(20), mixedText(333)} {
		for _, old := range someWords() {
			for _, fresh := range someWords() {
				check := impl.CheckOf(wordText(old) + rest)
				want := impl.CheckOf(wordText(fresh) + rest)
				if got := impl.CheckTurn(check, old, fresh); got != want {
					t.Errorf("CheckTurn(%d, %d, %d) ahead of %s: got %d, want %d", check, old, fresh, brief(rest), got, want)
				}
			}
		}
	}
}

func TestACheckTurnsWithEachWordInside(t *testing.T) {
	text := mixedText(200)
	for at := 0; at < len(text); at += 2 {
		old := int64(binary.BigEndian.Uint16([]byte(text[at:])))
		for _, fresh := range someWords() {
			other := text[:at] + wordText(fresh) + text[at+2:]
			if got, want := impl.CheckTurn(impl.CheckOf(text), old, fresh), impl.CheckOf(other); got != want {
				t.Errorf("the word at %d turned from %d to %d: got %d, want %d", at, old, fresh, got, want)
			}
		}
	}
}

func TestCheckTurnIsWhatTheDocumentSays(t *testing.T) {
	for _, check := range someWords() {
		for _, old := range someWords() {
			for _, fresh := range someWords() {
				want := 65535 - plainSum(wordText(65535-check)+wordText(65535-old)+wordText(fresh))
				if got := impl.CheckTurn(check, old, fresh); got != want {
					t.Errorf("CheckTurn(%d, %d, %d): got %d, want %d", check, old, fresh, got, want)
				}
			}
		}
	}
	// RFC 1624's own case, where a check of 65535 would be told by the older rule.
	if got := impl.CheckTurn(0xDD2F, 0x5555, 0x3285); got != 0 {
		t.Errorf("CheckTurn of RFC 1624: got %d, want 0", got)
	}
}

func TestCheckTurnOfWhatIsNoWord(t *testing.T) {
	for _, bad := range noWords() {
		for _, other := range []int64{0, 7, 65535, -1, 65536, math.MinInt64, math.MaxInt64} {
			for _, three := range [][3]int64{{bad, other, other}, {other, bad, other}, {other, other, bad}} {
				if got := impl.CheckTurn(three[0], three[1], three[2]); got != -1 {
					t.Errorf("CheckTurn(%d, %d, %d): got %d, want -1", three[0], three[1], three[2], got)
				}
			}
		}
	}
}
