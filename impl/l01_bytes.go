package impl

import (
	"errors"
	"strconv"
	"strings"
)

// Constants, see chapter 1.
const (
	OK        = 0
	ErrForm   = 1
	ErrSize   = 2
	ErrSyntax = 3
	ErrShort  = 4
	ErrSum    = 5
	ErrNone   = 6
	ErrThere  = 7
	ErrRange  = 8
	ErrFull   = 9
	ErrState  = 10
	MaxBytes  = 8000
	MaxList   = 400
	MaxTime   = 1000000
)

const (
	maxName  = 20
	crcBytes = 4
	crcTaps  = 0xEDB88320
	maxCrc   = 1<<32 - 1
	// Nine bytes hold 63 of the 64 bits, so the tenth one holds a single bit.
	tenthShift = 63
)

// NumOut is a thing of chapter 2.
type NumOut struct {
	N    int64
	At   int64
	Code int64
}

// TextOut is a thing of chapter 2.
type TextOut struct {
	Text string
	At   int64
	Code int64
}

// numFault is why no number was read: the code that is told for it.
type numFault struct {
	code int64
}

func (f numFault) Error() string {
	return "no number: code " + strconv.FormatInt(f.code, 10)
}

// foldSign lays the numbers below 0 between the others, so that small ones of
// both signs take few bytes.
func foldSign(n int64) uint64 {
	return uint64(n)<<1 ^ uint64(n>>63)
}

func unfoldSign(u uint64) int64 {
	return int64(u>>1) ^ -int64(u&1)
}

func joinTexts(parts ...string) string {
	size := 0
	for _, part := range parts {
		size += len(part)
	}
	whole := make([]byte, size)
	at := 0
	for _, part := range parts {
		at += copy(whole[at:], part)
	}
	return string(whole)
}

// PutNum: see chapter 2.
func PutNum(n int64) string {
	var written []byte
	u := foldSign(n)
	for u >= 128 {
		written = append(written, byte(u&127)|128)
		u >>= 7
	}
	return string(append(written, byte(u)))
}

// readNum reads the number at a place that is not below 0, and tells the place
// behind it; its error is a numFault.
func readNum(text string, at int64) (int64, int64, error) {
	var u uint64
	var b byte
	shift := 0
	fault := numFault{ErrSyntax}

more:
	if at >= int64(len(text)) {
		fault.code = ErrShort
		goto wrong
	}
	b = text[at]
	at++
	if shift == tenthShift && b > 1 {
		goto wrong
	}
	if b < 128 {
		goto last
	}
	u |= uint64(b&127) << shift
	shift += 7
	goto more

last:
	// A last byte of 0 behind others adds nothing: fewer bytes would do.
	if b == 0 && shift > 0 {
		goto wrong
	}
	return unfoldSign(u | uint64(b)<<shift), at, nil

wrong:
	return 0, 0, fault
}

// GetNum: see chapter 2.
func GetNum(text string, at int64) NumOut {
	if len(text) > MaxBytes {
		return NumOut{Code: ErrSize}
	}
	if at < 0 {
		return NumOut{Code: ErrForm}
	}
	n, behind, err := readNum(text, at)
	var fault numFault
	if errors.As(err, &fault) {
		return NumOut{Code: fault.code}
	}
	return NumOut{N: n, At: behind}
}

// PutText: see chapter 2.
func PutText(t string) string {
	if len(t) > MaxBytes {
		return ""
	}
	return joinTexts(PutNum(int64(len(t))), t)
}

// GetText: see chapter 2.
func GetText(text string, at int64) TextOut {
	length := GetNum(text, at)
	if length.Code != OK {
		return TextOut{Code: length.Code}
	}
	if length.N < 0 || length.N > MaxBytes {
		return TextOut{Code: ErrSyntax}
	}
	end := length.At + length.N
	if end > int64(len(text)) {
		return TextOut{Code: ErrShort}
	}
	return TextOut{Text: strings.Clone(text[length.At:end]), At: end}
}

func isLetter(b byte) bool {
	return b >= 'a' && b <= 'z'
}

func isDigit(b byte) bool {
	return b >= '0' && b <= '9'
}

// NameRight: see chapter 2.
func NameRight(t string) bool {
	if len(t) < 1 || len(t) > maxName || !isLetter(t[0]) {
		return false
	}
	for i := range len(t) {
		if b := t[i]; !isLetter(b) && !isDigit(b) && b != '_' {
			return false
		}
	}
	return true
}

// Crc: see chapter 2.
func Crc(text string) int64 {
	return CrcMore(0, text)
}

// CrcMore: see chapter 2.
func CrcMore(crc int64, text string) int64 {
	if len(text) > MaxBytes || crc < 0 || crc > maxCrc {
		return 0
	}
	// A CRC is its register turned, so turning it back goes on where it ended;
	// the CRC of the empty text, 0, gives the register of the beginning.
	register := ^uint32(crc)
	for i := range len(text) {
		register = crcByte(register, text[i])
	}
	return int64(^register)
}

func crcByte(register uint32, b byte) uint32 {
	register ^= uint32(b)
	for range 8 {
		low := register & 1
		register >>= 1
		if low == 1 {
			register ^= crcTaps
		}
	}
	return register
}

// Seal: see chapter 2.
func Seal(text string) string {
	if len(text) > MaxBytes-crcBytes {
		return ""
	}
	return joinTexts(text, crcText(Crc(text)))
}

// crcText gives the four bytes of a CRC, the lowest first.
func crcText(crc int64) string {
	var four [crcBytes]byte
	for i := range four {
		four[i] = byte(crc >> (8 * i))
	}
	return string(four[:])
}

// Unseal: see chapter 2.
func Unseal(text string) TextOut {
	if len(text) > MaxBytes {
		return TextOut{Code: ErrSize}
	}
	if len(text) < crcBytes {
		return TextOut{Code: ErrShort}
	}
	inner := text[:len(text)-crcBytes]
	if Seal(inner) != text {
		return TextOut{Code: ErrSum}
	}
	return TextOut{Text: strings.Clone(inner)}
}
