package tests

import (
	"encoding/binary"
	"hash/crc32"
	"math"
	"strings"
	"testing"
	"unsafe"

	"loop.example/g00577/impl"
)

// edgeNumbers are those at which a number takes one byte more, their
// neighbours, and the least and the greatest of all, of either sign.
func edgeNumbers() []int64 {
	out := []int64{0, math.MinInt64, math.MinInt64 + 1, math.MaxInt64 - 1, math.MaxInt64}
	for i := range 63 {
		for d := int64(-2); d <= 2; d++ {
			n := int64(1)<<i + d
			out = append(out, n, -n, -n-1)
		}
	}
	return out
}

// someBytes is a text of n bytes in which all bytes come by turns.
func someBytes(n int) string {
	out := make([]byte, n)
	for i := range out {
		out[i] = byte(i*7 + i/256)
	}
	return string(out)
}

func checkNum(t *testing.T, what string, got impl.NumOut, want impl.NumOut) {
	t.Helper()
	if got != want {
		t.Errorf("%s: got %+v, want %+v", what, got, want)
	}
}

func checkText(t *testing.T, what string, got impl.TextOut, want impl.TextOut) {
	t.Helper()
	if got != want {
		t.Errorf("%s: got %.80q at %d code %d, want %.80q at %d code %d",
			what, got.Text, got.At, got.Code, want.Text, want.At, want.Code)
	}
}

func TestPutNumBytes(t *testing.T) {
	for _, c := range []struct {
		n    int64
		want string
	}{
		{0, "\x00"},
		{-1, "\x01"},
		{1, "\x02"},
		{63, "\x7e"},
		{-64, "\x7f"},
		{64, "\x80\x01"},
		{-65, "\x81\x01"},
		{8191, "\xfe\x7f"},
		{8192, "\x80\x80\x01"},
		{math.MaxInt64, "\xfe\xff\xff\xff\xff\xff\xff\xff\xff\x01"},
		{math.MinInt64, "\xff\xff\xff\xff\xff\xff\xff\xff\xff\x01"},
	} {
		if got := impl.PutNum(c.n); got != c.want {
			t.Errorf("PutNum(%d): got %q, want %q", c.n, got, c.want)
		}
	}
	for _, n := range edgeNumbers() {
		if got, want := impl.PutNum(n), string(binary.AppendVarint(nil, n)); got != want {
			t.Errorf("PutNum(%d): got %q, want %q", n, got, want)
		}
	}
}

// Promise 1, of numbers.
func TestNumbersComeBack(t *testing.T) {
	lengths := map[int]int{}
	for _, n := range edgeNumbers() {
		b := impl.PutNum(n)
		lengths[len(b)]++
		size := int64(len(b))
		checkNum(t, "alone", impl.GetNum(b, 0), impl.NumOut{N: n, At: size})
		checkNum(t, "in between", impl.GetNum("\xff\x80x"+b+"\xff", 3), impl.NumOut{N: n, At: 3 + size})
		for cut := range len(b) {
			checkNum(t, "cut off", impl.GetNum(b[:cut], 0), impl.NumOut{Code: impl.ErrShort})
		}
	}
	for size := 1; size <= 10; size++ {
		if lengths[size] == 0 {
			t.Errorf("no number of %d bytes was tried", size)
		}
	}
}

func TestGetNumFaults(t *testing.T) {
	nine := strings.Repeat("\x80", 9)
	full := strings.Repeat("\xff", 9)
	short := impl.NumOut{Code: impl.ErrShort}
	syntax := impl.NumOut{Code: impl.ErrSyntax}
	form := impl.NumOut{Code: impl.ErrForm}
	size := impl.NumOut{Code: impl.ErrSize}
	for _, c := range []struct {
		what string
		text string
		at   int64
		want impl.NumOut
	}{
		{"below 0", "\x00", -1, form},
		{"far below 0", "\x00", math.MinInt64, form},
		{"below 0, of nothing", "", -1, form},
		{"nothing", "", 0, short},
		{"last place", "ab\x02", 2, impl.NumOut{N: 1, At: 3}},
		{"at the end", "\x00\x00", 2, short},
		{"behind the end", "\x00\x00", 3, short},
		{"far behind the end", "\x00\x00", math.MaxInt64, short},
		{"one more to come", "\x80", 0, short},
		{"the tenth to come", nine, 0, short},
		{"the tenth to come, all ones", full, 0, short},
		{"needless second byte", "\x80\x00", 0, syntax},
		{"needless second byte of 127", "\xff\x00", 0, syntax},
		{"needless third byte", "\x80\x80\x00", 0, syntax},
		{"needless tenth byte", nine + "\x00", 0, syntax},
		{"a tenth byte of 1", nine + "\x01", 0, impl.NumOut{N: 1 << 62, At: 10}},
		{"a tenth byte of 1, all ones", full + "\x01", 0, impl.NumOut{N: math.MinInt64, At: 10}},
		{"a tenth byte of 2", nine + "\x02", 0, syntax},
		{"a tenth byte of 127", nine + "\x7f", 0, syntax},
		{"a tenth byte of 128", nine + "\x80", 0, syntax},
		{"a tenth byte of 129", nine + "\x81", 0, syntax},
		{"eleven bytes", nine + "\x80\x01", 0, syntax},
		{"MaxBytes", strings.Repeat("\x02", 8000), 7999, impl.NumOut{N: 1, At: 8000}},
		{"MaxBytes, at the end", strings.Repeat("\x02", 8000), 8000, short},
		{"more than MaxBytes", strings.Repeat("\x02", 8001), 0, size},
		{"more than MaxBytes, below 0", strings.Repeat("\x02", 8001), -1, size},
	} {
		checkNum(t, c.what, impl.GetNum(c.text, c.at), c.want)
	}
}

// twoByteCode is the code of GetNum of a text of these two bytes.
func twoByteCode(first byte, second byte) int64 {
	switch {
	case first < 128:
		return impl.OK
	case second == 0:
		return impl.ErrSyntax
	case second < 128:
		return impl.OK
	default:
		return impl.ErrShort
	}
}

// Whatever is read as a number is written just so.
func TestNumbersAreWrittenOneWay(t *testing.T) {
	for i := range 1 << 16 {
		text := string([]byte{byte(i), byte(i >> 8)})
		got := impl.GetNum(text, 0)
		if want := twoByteCode(text[0], text[1]); got.Code != want {
			t.Errorf("%q: got code %d, want %d", text, got.Code, want)
		} else if got.Code != impl.OK {
			checkNum(t, "beside a code", got, impl.NumOut{Code: want})
		} else if b := impl.PutNum(got.N); b != text[:got.At] {
			t.Errorf("%q is read as %d, which is written %q", text, got.N, b)
		}
	}
}

// Promise 1, of texts.
func TestTextsComeBack(t *testing.T) {
	for _, n := range []int{0, 1, 2, 63, 64, 65, 255, 256, 4000, 7997, 7998} {
		want := someBytes(n)
		b := impl.PutText(want)
		if b != impl.PutNum(int64(n))+want {
			t.Errorf("PutText of %d bytes is not its length and it", n)
		}
		checkText(t, "alone", impl.GetText(b, 0), impl.TextOut{Text: want, At: int64(len(b))})
		for _, cut := range []int{0, len(b) / 2, len(b) - 1} {
			checkText(t, "cut off", impl.GetText(b[:cut], 0), impl.TextOut{Code: impl.ErrShort})
		}
		if n <= 4000 {
			got := impl.GetText("\xff\x80x"+b+"\xff", 3)
			checkText(t, "in between", got, impl.TextOut{Text: want, At: 3 + int64(len(b))})
		}
	}
}

func TestPutTextLimits(t *testing.T) {
	greatest := someBytes(8000)
	b := impl.PutText(greatest)
	if b != impl.PutNum(8000)+greatest {
		t.Errorf("PutText of MaxBytes: got %d bytes", len(b))
	}
	checkText(t, "bytes of MaxBytes", impl.GetText(b, 0), impl.TextOut{Code: impl.ErrSize})
	if b := impl.PutText(someBytes(8001)); b != "" {
		t.Errorf("PutText of one more than MaxBytes: got %d bytes", len(b))
	}
}

func TestGetTextFaults(t *testing.T) {
	nine := strings.Repeat("\x80", 9)
	short := impl.TextOut{Code: impl.ErrShort}
	syntax := impl.TextOut{Code: impl.ErrSyntax}
	form := impl.TextOut{Code: impl.ErrForm}
	size := impl.TextOut{Code: impl.ErrSize}
	for _, c := range []struct {
		what string
		text string
		at   int64
		want impl.TextOut
	}{
		{"below 0", "\x00", -1, form},
		{"far below 0", "", math.MinInt64, form},
		{"nothing", "", 0, short},
		{"the empty one", "\x00", 0, impl.TextOut{At: 1}},
		{"at the end", "\x02a", 2, short},
		{"behind the end", "\x02a", 3, short},
		{"far behind the end", "\x02a", math.MaxInt64, short},
		{"length cut off", "\x80", 0, short},
		{"nothing behind the length", "\x02", 0, short},
		{"one byte lacks", "\x04a", 0, short},
		{"just enough", "\x04ab", 0, impl.TextOut{Text: "ab", At: 3}},
		{"more than enough", "\x04abc", 0, impl.TextOut{Text: "ab", At: 3}},
		{"needless byte of a length", "\x82\x00a", 0, syntax},
		{"a tenth byte of 2", nine + "\x02", 0, syntax},
		{"length of -1", "\x01a", 0, syntax},
		{"least length", impl.PutNum(math.MinInt64) + "a", 0, syntax},
		{"greatest length", impl.PutNum(math.MaxInt64) + "a", 0, syntax},
		{"length of one more than MaxBytes", impl.PutNum(8001) + "a", 0, syntax},
		{"length of MaxBytes", impl.PutNum(8000) + "a", 0, short},
		{"more than MaxBytes", strings.Repeat("\x00", 8001), 0, size},
		{"more than MaxBytes, below 0", strings.Repeat("\x00", 8001), -1, size},
		{"MaxBytes", strings.Repeat("\x00", 8000), 7999, impl.TextOut{At: 8000}},
	} {
		checkText(t, c.what, impl.GetText(c.text, c.at), c.want)
	}
}

func TestNameRight(t *testing.T) {
	const first = "abcdefghijklmnopqrstuvwxyz"
	const later = first + "0123456789_"
	for i := range 256 {
		b := string([]byte{byte(i)})
		if got, want := impl.NameRight(b), strings.Contains(first, b); got != want {
			t.Errorf("NameRight(%q): got %v", b, got)
		}
		for _, name := range []string{"a" + b, "a" + b + "z"} {
			if got, want := impl.NameRight(name), strings.Contains(later, b); got != want {
				t.Errorf("NameRight(%q): got %v", name, got)
			}
		}
	}
	for _, c := range []struct {
		length int
		want   bool
	}{{0, false}, {1, true}, {19, true}, {20, true}, {21, false}, {8000, false}, {8001, false}} {
		if got := impl.NameRight(strings.Repeat("q", c.length)); got != c.want {
			t.Errorf("a name of %d bytes: got %v", c.length, got)
		}
	}
}

func TestCrc(t *testing.T) {
	if got := impl.Crc("123456789"); got != 0xCBF43926 {
		t.Errorf("the CRC of 1 to 9: got %x", got)
	}
	if got := impl.Crc(""); got != 0 {
		t.Errorf("the CRC of nothing: got %x", got)
	}
	for i := range 256 {
		b := []byte{byte(i)}
		if got, want := impl.Crc(string(b)), int64(crc32.ChecksumIEEE(b)); got != want {
			t.Errorf("the CRC of %q: got %x, want %x", b, got, want)
		}
	}
	for _, n := range []int{2, 100, 7999, 8000} {
		text := someBytes(n)
		if got, want := impl.Crc(text), int64(crc32.ChecksumIEEE([]byte(text))); got != want {
			t.Errorf("the CRC of %d bytes: got %x, want %x", n, got, want)
		}
	}
	if got := impl.Crc(someBytes(8001)); got != 0 {
		t.Errorf("the CRC of more than MaxBytes: got %x", got)
	}
}

// Promise 2, of a CRC that goes on.
func TestCrcGoesOn(t *testing.T) {
	whole := someBytes(300)
	want := impl.Crc(whole)
	for i := range len(whole) + 1 {
		if got := impl.CrcMore(impl.Crc(whole[:i]), whole[i:]); got != want {
			t.Errorf("cut at %d: got %x, want %x", i, got, want)
		}
	}
	both := someBytes(16000)
	got := impl.CrcMore(impl.Crc(both[:8000]), both[8000:])
	if want := int64(crc32.ChecksumIEEE([]byte(both))); got != want {
		t.Errorf("twice MaxBytes: got %x, want %x", got, want)
	}
}

func TestCrcMoreEdges(t *testing.T) {
	const greatest = 1<<32 - 1
	for _, c := range []struct {
		what string
		crc  int64
		text string
		want int64
	}{
		{"from 0", 0, "123456789", 0xCBF43926},
		{"from 0, nothing", 0, "", 0},
		{"from the greatest, nothing", greatest, "", greatest},
		{"from the greatest", greatest, "ab", int64(crc32.Update(greatest, crc32.IEEETable, []byte("ab")))},
		{"one above", greatest + 1, "ab", 0},
		{"one above, nothing", greatest + 1, "", 0},
		{"below 0", -1, "ab", 0},
		{"below 0, nothing", -1, "", 0},
		{"the least", math.MinInt64, "ab", 0},
		{"the greatest of all", math.MaxInt64, "ab", 0},
		{"MaxBytes", 1, someBytes(8000), int64(crc32.Update(1, crc32.IEEETable, []byte(someBytes(8000))))},
		{"more than MaxBytes", 1, someBytes(8001), 0},
	} {
		if got := impl.CrcMore(c.crc, c.text); got != c.want {
			t.Errorf("%s: got %x, want %x", c.what, got, c.want)
		}
	}
}

// Promise 2, of a sealed text.
func TestSealedTextsComeBack(t *testing.T) {
	if got := impl.Seal("123456789"); got != "123456789\x26\x39\xf4\xcb" {
		t.Errorf("Seal: got %q", got)
	}
	for _, n := range []int{0, 1, 3, 4, 5, 300, 7995, 7996} {
		text := someBytes(n)
		sealed := impl.Seal(text)
		if len(sealed) != n+4 {
			t.Errorf("Seal of %d bytes: got %d", n, len(sealed))
		}
		checkText(t, "unsealed", impl.Unseal(sealed), impl.TextOut{Text: text})
	}
	for _, n := range []int{7997, 8000, 8001} {
		if got := impl.Seal(someBytes(n)); got != "" {
			t.Errorf("Seal of %d bytes: got %d", n, len(got))
		}
	}
}

// Promise 2, of a byte that was turned.
func TestTurnedBytesAreRefused(t *testing.T) {
	sum := impl.TextOut{Code: impl.ErrSum}
	for _, text := range []string{"", "a", "\x00\x00\x00\x00", "a sealed text"} {
		sealed := []byte(impl.Seal(text))
		for i := range sealed {
			for turn := 1; turn < 256; turn++ {
				sealed[i] ^= byte(turn)
				checkText(t, "turned", impl.Unseal(string(sealed)), sum)
				sealed[i] ^= byte(turn)
			}
		}
	}
	sealed := []byte(impl.Seal(someBytes(7996)))
	for _, i := range []int{0, 1, 4000, 7995, 7996, 7997, 7998, 7999} {
		sealed[i] ^= 128
		checkText(t, "turned", impl.Unseal(string(sealed)), sum)
		sealed[i] ^= 128
	}
}

func TestUnsealFaults(t *testing.T) {
	for _, c := range []struct {
		what string
		text string
		code int64
	}{
		{"nothing", "", impl.ErrShort},
		{"one byte", "\x00", impl.ErrShort},
		{"three bytes", "\x00\x00\x00", impl.ErrShort},
		{"the empty text", "\x00\x00\x00\x00", impl.OK},
		{"four other bytes", "\x00\x00\x00\x01", impl.ErrSum},
		{"five bytes", "\x00\x00\x00\x00\x00", impl.ErrSum},
		{"the highest byte first", "123456789\xcb\xf4\x39\x26", impl.ErrSum},
		{"a byte more", impl.Seal("ab") + "\x00", impl.ErrSum},
		{"a byte less", impl.Seal("ab")[:5], impl.ErrSum},
		{"MaxBytes", strings.Repeat("\x01", 8000), impl.ErrSum},
		{"more than MaxBytes", strings.Repeat("\x01", 8001), impl.ErrSize},
	} {
		checkText(t, c.what, impl.Unseal(c.text), impl.TextOut{Code: c.code})
	}
}

// shares tells whether a piece of whole is where part is.
func shares(whole string, part string) bool {
	begin := uintptr(unsafe.Pointer(unsafe.StringData(whole)))
	place := uintptr(unsafe.Pointer(unsafe.StringData(part)))
	return place >= begin && place < begin+uintptr(len(whole))
}

func TestTextAnswersAreNewMemory(t *testing.T) {
	put := impl.PutText("a text long enough to stand in memory of its own")
	if shares(put, impl.GetText(put, 0).Text) {
		t.Error("GetText hands out a piece of its argument")
	}
	sealed := impl.Seal("a text long enough to stand in memory of its own")
	if shares(sealed, impl.Unseal(sealed).Text) {
		t.Error("Unseal hands out a piece of its argument")
	}
}
