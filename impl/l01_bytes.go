package impl

import "errors"

// Constants, see chapter 1.
const (
	OK        = 0
	ErrForm   = 1
	ErrSize   = 2
	ErrSyntax = 3
	ErrShort  = 4
	ErrSum    = 5
	ErrNone   = 6
	ErrThere  = 7
	ErrRange  = 8
	ErrFull   = 9
	ErrState  = 10
	ErrMany   = 11
	MaxBytes  = 8000
	MaxList   = 400
	MaxTime   = 1000000
)

// NumOut is a thing of chapter 2.
type NumOut struct {
	N    int64
	At   int64
	Code int64
}

// TextOut is a thing of chapter 2.
type TextOut struct {
	Text string
	At   int64
	Code int64
}

// maxNumBytes is how many bytes the greatest number takes.
const maxNumBytes = 10

// sumBytes is how many bytes a CRC takes behind a sealed text.
const sumBytes = 4

// crcPoly is what the CRC's register is put together with.
const crcPoly = 0xEDB88320

// greatestCrc is the greatest number of 32 bits.
const greatestCrc = 1<<32 - 1

// byteFault is why bytes could not be read.
type byteFault struct {
	code int64
}

// Error tells the fault in words, as an error must.
func (f byteFault) Error() string {
	switch f.code {
	case ErrForm:
		return "the place is below 0"
	case ErrShort:
		return "the text ends too early"
	default:
		return "nothing is written so"
	}
}

// PutNum writes n in one to ten bytes, seven bits a byte, the lowest first.
func PutNum(n int64) string {
	var out [maxNumBytes]byte
	u := foldSign(n)
	last := 0
	for u >= 128 {
		out[last] = byte(u) | 128
		u >>= 7
		last++
	}
	out[last] = byte(u)
	return string(out[:last+1])
}

// GetNum reads the number that PutNum wrote at that place.
func GetNum(text string, at int64) NumOut {
	if len(text) > MaxBytes {
		return NumOut{Code: ErrSize}
	}
	n, behind, err := readNum(text, at)
	var bad byteFault
	if errors.As(err, &bad) {
		return NumOut{Code: bad.code}
	}
	return NumOut{N: n, At: behind}
}

// PutText writes the length of t, and t; nothing of one that is too long.
func PutText(t string) string {
	if len(t) > MaxBytes {
		return ""
	}
	return joinTexts(PutNum(int64(len(t))), t)
}

// GetText reads the text that PutText wrote at that place.
func GetText(text string, at int64) TextOut {
	if len(text) > MaxBytes {
		return TextOut{Code: ErrSize}
	}
	t, behind, err := readText(text, at)
	var bad byteFault
	if errors.As(err, &bad) {
		return TextOut{Code: bad.code}
	}
	return TextOut{Text: t, At: behind}
}

// NameRight tells whether t is a name.
func NameRight(t string) bool {
	if len(t) < 1 || len(t) > 20 || !isLetter(t[0]) {
		return false
	}
	for i := 1; i < len(t); i++ {
		if !isLetter(t[i]) && !isDigit(t[i]) && t[i] != '_' {
			return false
		}
	}
	return true
}

// Crc is the CRC of a text, 0 of one that is too long.
func Crc(text string) int64 {
	// The empty text has the CRC 0, so any text goes on from there.
	return CrcMore(0, text)
}

// CrcMore is the CRC of a text whose CRC is crc and of the one behind it.
func CrcMore(crc int64, text string) int64 {
	if len(text) > MaxBytes || crc < 0 || crc > greatestCrc {
		return 0
	}
	register := ^uint32(crc)
	for i := 0; i < len(text); i++ {
		register = crcByte(register, text[i])
	}
	return int64(^register)
}

// Seal puts the CRC behind a text; nothing comes of one that is too long.
func Seal(text string) string {
	if len(text) > MaxBytes-sumBytes {
		return ""
	}
	return joinTexts(text, sumText(Crc(text)))
}

// Unseal takes the CRC off a sealed text, if it is that text's.
func Unseal(text string) TextOut {
	if len(text) > MaxBytes {
		return TextOut{Code: ErrSize}
	}
	if len(text) < sumBytes {
		return TextOut{Code: ErrShort}
	}
	body := text[:len(text)-sumBytes]
	if Seal(body) != text {
		return TextOut{Code: ErrSum}
	}
	return TextOut{Text: freshText(body)}
}

// foldSign puts numbers near 0, of either sign, on small ones without a sign,
// so that they take few bytes.
func foldSign(n int64) uint64 {
	if n < 0 {
		return ^(uint64(n) << 1)
	}
	return uint64(n) << 1
}

// unfoldSign undoes foldSign.
func unfoldSign(u uint64) int64 {
	if u&1 == 1 {
		return int64(^(u >> 1))
	}
	return int64(u >> 1)
}

// readNum tells the number at that place, and the place behind it.
func readNum(text string, at int64) (int64, int64, error) {
	if at < 0 {
		return 0, 0, byteFault{code: ErrForm}
	}
	var u uint64
	var b byte
	count := 0
	place := at
more:
	if place >= int64(len(text)) {
		return 0, 0, byteFault{code: ErrShort}
	}
	b = text[place]
	place++
	count++
	// Nine bytes hold 63 of the 64 bits: the tenth has room for one alone.
	if count == maxNumBytes && b > 1 {
		goto wrong
	}
	u |= uint64(b&127) << (7 * (count - 1))
	if b < 128 {
		goto last
	}
	goto more
last:
	// A 0 at the end adds nothing: the bytes ahead of it would have done.
	if b == 0 && count > 1 {
		goto wrong
	}
	return unfoldSign(u), place, nil
wrong:
	return 0, 0, byteFault{code: ErrSyntax}
}

// readText tells the text at that place, and the place behind it.
func readText(text string, at int64) (string, int64, error) {
	length, begin, err := readNum(text, at)
	if err != nil {
		return "", 0, err
	}
	if length < 0 || length > MaxBytes {
		return "", 0, byteFault{code: ErrSyntax}
	}
	if length > int64(len(text))-begin {
		return "", 0, byteFault{code: ErrShort}
	}
	return freshText(text[begin : begin+length]), begin + length, nil
}

// joinTexts puts one text behind another.
func joinTexts(a string, b string) string {
	out := make([]byte, len(a)+len(b))
	n := copy(out, a)
	copy(out[n:], b)
	return string(out)
}

// freshText is the same text in memory of its own: a piece of an argument
// would share the argument's.
func freshText(t string) string {
	out := make([]byte, len(t))
	copy(out, t)
	return string(out)
}

// isLetter tells whether b is one of a-z.
func isLetter(b byte) bool {
	return b >= 'a' && b <= 'z'
}

// isDigit tells whether b is one of 0-9.
func isDigit(b byte) bool {
	return b >= '0' && b <= '9'
}

// crcByte puts one byte through the CRC's register.
func crcByte(register uint32, b byte) uint32 {
	for i := 0; i < 8; i++ {
		odd := (register^uint32(b>>i))&1 == 1
		register >>= 1
		if odd {
			register ^= crcPoly
		}
	}
	return register
}

// sumText writes a CRC in four bytes, the lowest first.
func sumText(crc int64) string {
	var out [sumBytes]byte
	for i := range out {
		out[i] = byte(crc >> (8 * i))
	}
	return string(out[:])
}
