package tests

import (
	"fmt"
	"math"
	"math/big"
	"math/rand/v2"
	"slices"
	"strings"
	"testing"

	"loop.example/g00577/impl"
)

// frameOf is a frame of any width and height, right or not.
func frameOf(width int64, height int64, pixels string) impl.Frame {
	return impl.Frame{Width: width, Height: height, Pixels: pixels}
}

// picture is a frame of rows as they are drawn: # is 255, a digit that many,
// all else 0.
func picture(rows ...string) impl.Frame {
	var pixels []byte
	for _, c := range []byte(strings.Join(rows, "")) {
		switch {
		case c == '#':
			c = 255
		case c >= '0' && c <= '9':
			c -= '0'
		default:
			c = 0
		}
		pixels = append(pixels, c)
	}
	return frameOf(int64(len(rows[0])), int64(len(rows)), string(pixels))
}

// drawn tells a frame so that all of its bytes can be read.
func drawn(f impl.Frame) string {
	return fmt.Sprintf("%d by %d %q", f.Width, f.Height, f.Pixels)
}

// inner is a blob that is not at the edge.
func inner(area int64, sum int64, sumX int64, sumY int64) impl.Blob {
	return impl.Blob{Area: area, Sum: sum, SumX: sumX, SumY: sumY}
}

// outer is a blob that is at the edge.
func outer(area int64, sum int64, sumX int64, sumY int64) impl.Blob {
	return impl.Blob{Area: area, Sum: sum, SumX: sumX, SumY: sumY, Edge: true}
}

// evenFrame is a frame of one brightness.
func evenFrame(width int64, height int64, light byte) impl.Frame {
	return frameOf(width, height, strings.Repeat(string([]byte{light}), int(width*height)))
}

// withPixel is f with another byte at one place.
func withPixel(f impl.Frame, x int64, y int64, light byte) impl.Frame {
	pixels := []byte(f.Pixels)
	pixels[y*f.Width+x] = light
	return frameOf(f.Width, f.Height, string(pixels))
}

// sideways is f in a mirror at its left or right side.
func sideways(f impl.Frame) impl.Frame {
	out := f
	for y := range f.Height {
		for x := range f.Width {
			out = withPixel(out, f.Width-1-x, y, f.Pixels[y*f.Width+x])
		}
	}
	return out
}

// overhead is f in a mirror above or below it.
func overhead(f impl.Frame) impl.Frame {
	out := f
	for y := range f.Height {
		for x := range f.Width {
			out = withPixel(out, x, f.Height-1-y, f.Pixels[y*f.Width+x])
		}
	}
	return out
}

// someFrames are n right ones of all sizes, from nearly dark to nearly full,
// the same ones each time.
func someFrames(n int) []impl.Frame {
	source := rand.New(rand.NewPCG(5, 6))
	var out []impl.Frame
	for i := range n {
		width, height := 1+source.Int64N(16), 1+source.Int64N(12)
		if i%3 == 0 {
			width, height = 16-source.Int64N(3), 12-source.Int64N(3)
		}
		dark := source.IntN(101)
		pixels := make([]byte, width*height)
		for j := range pixels {
			if source.IntN(100) >= dark {
				pixels[j] = byte(source.IntN(256))
			}
		}
		out = append(out, frameOf(width, height, string(pixels)))
	}
	return out
}

// farNumbers are the least and the greatest of all, and some that wrap round
// to smaller ones when they are multiplied.
func farNumbers() []int64 {
	return []int64{math.MinInt64, math.MinInt64 + 1, -1 << 62, -1 << 32, 1 << 32, 1<<32 + 1, 1 << 62, math.MaxInt64 - 1, math.MaxInt64}
}

// wrongFrames have one fault each, and no dark pixel.
func wrongFrames() []impl.Frame {
	lit := func(n int) string { return strings.Repeat("\xff", n) }
	out := []impl.Frame{
		{},
		frameOf(0, 1, ""), frameOf(1, 0, ""), frameOf(0, 12, lit(12)), frameOf(16, 0, lit(16)), frameOf(0, 0, lit(1)),
		frameOf(17, 1, lit(17)), frameOf(1, 13, lit(13)), frameOf(17, 12, lit(204)), frameOf(16, 13, lit(208)), frameOf(17, 13, lit(221)),
		frameOf(12, 16, lit(192)), frameOf(192, 1, lit(192)), frameOf(1, 192, lit(192)),
		frameOf(-1, 1, lit(1)), frameOf(1, -1, lit(1)), frameOf(-1, -1, lit(1)), frameOf(-4, -3, lit(12)), frameOf(-16, -12, lit(192)),
		frameOf(1, 1, ""), frameOf(1, 1, lit(2)), frameOf(4, 3, ""), frameOf(4, 3, lit(11)), frameOf(4, 3, lit(13)), frameOf(4, 3, lit(7)),
		frameOf(16, 12, ""), frameOf(16, 12, lit(191)), frameOf(16, 12, lit(193)), frameOf(16, 12, lit(8000)), frameOf(16, 12, lit(8001)),
	}
	for _, n := range farNumbers() {
		out = append(out, frameOf(n, 3, lit(12)), frameOf(4, n, lit(12)), frameOf(n, 0, ""), frameOf(0, n, ""), frameOf(n, n, ""), frameOf(n, n, lit(1)))
	}
	return out
}

// labels tell of each pixel the first one that it hangs together with, -1 of
// one that is not above the level: each takes the least of its neighbours', as
// long as one changes.
func labels(f impl.Frame, level int64) []int64 {
	out := make([]int64, len(f.Pixels))
	for i := range out {
		out[i] = -1
		if int64(f.Pixels[i]) > level {
			out[i] = int64(i)
		}
	}
	for changed := true; changed; {
		changed = false
		for i := range int64(len(out)) {
			if i%f.Width+1 < f.Width {
				changed = evened(out, i, i+1) || changed
			}
			if i+f.Width < int64(len(out)) {
				changed = evened(out, i, i+f.Width) || changed
			}
		}
	}
	return out
}

// evened gives two neighbours the lesser of their labels, and tells whether
// that changed one.
func evened(all []int64, i int64, j int64) bool {
	if all[i] < 0 || all[j] < 0 || all[i] == all[j] {
		return false
	}
	least := min(all[i], all[j])
	all[i], all[j] = least, least
	return true
}

// plainBlobs is a second opinion on the blobs of a right frame, however many.
func plainBlobs(f impl.Frame, level int64) []impl.Blob {
	var out []impl.Blob
	all := labels(f, level)
	for first := range int64(len(all)) {
		var b impl.Blob
		for i := range int64(len(all)) {
			if all[i] != first {
				continue
			}
			x, y, light := i%f.Width, i/f.Width, int64(f.Pixels[i])
			b.Area++
			b.Sum += light
			b.SumX += x * light
			b.SumY += y * light
			b.Edge = b.Edge || x == 0 || x+1 == f.Width || y == 0 || y+1 == f.Height
		}
		if b.Area > 0 {
			out = append(out, b)
		}
	}
	return out
}

// plainBlobsOf is a second opinion on BlobsOf of a right frame and level.
func plainBlobsOf(f impl.Frame, level int64) impl.BlobsOut {
	blobs := plainBlobs(f, level)
	if len(blobs) > 8 {
		return impl.BlobsOut{Code: impl.ErrFull}
	}
	return impl.BlobsOut{Blobs: blobs}
}

// plainSpot is a second opinion on SpotOf of what is right, in numbers without
// a limit.
func plainSpot(b impl.Blob, f impl.Frame, focal int64) impl.Vec {
	product := func(factors ...int64) *big.Int {
		out := big.NewInt(1)
		for _, n := range factors {
			out.Mul(out, big.NewInt(n))
		}
		return out
	}
	x := new(big.Int).Sub(product(2, b.SumX), product(f.Width-1, b.Sum))
	y := new(big.Int).Sub(product(2, b.SumY), product(f.Height-1, b.Sum))
	z := product(2, focal, b.Sum)
	shared := new(big.Int).GCD(nil, nil, new(big.Int).Abs(x), z)
	shared.GCD(nil, nil, shared, new(big.Int).Abs(y))
	for _, part := range []*big.Int{x, y, z} {
		part.Quo(part, shared)
	}
	return vec(x.Int64(), y.Int64(), z.Int64())
}

// plainSpots is a second opinion on SpotsOf of what is right.
func plainSpots(f impl.Frame, level int64, focal int64) []impl.Vec {
	var out []impl.Vec
	for _, b := range plainBlobsOf(f, level).Blobs {
		v := plainSpot(b, f, focal)
		if b.Area <= 20 && !b.Edge && max(v.X, -v.X, v.Y, -v.Y, v.Z) <= 1800 {
			out = append(out, v)
		}
	}
	return out
}

func checkFrame(t *testing.T, what string, got impl.FrameOut, want impl.FrameOut) {
	t.Helper()
	if got != want {
		t.Errorf("%s: got %s code %d, want %s code %d", what, drawn(got.Frame), got.Code, drawn(want.Frame), want.Code)
	}
}

func checkBlobs(t *testing.T, what string, got impl.BlobsOut, want impl.BlobsOut) {
	t.Helper()
	if got.Code != want.Code || !slices.Equal(got.Blobs, want.Blobs) {
		t.Errorf("%s: got %+v, want %+v", what, got, want)
	}
}

func checkSpots(t *testing.T, what string, got []impl.Vec, want []impl.Vec) {
	t.Helper()
	if !slices.Equal(got, want) {
		t.Errorf("%s: got %v, want %v", what, got, want)
	}
}

func TestFrameConstants(t *testing.T) {
	checkInt(t, "MaxWidth", impl.MaxWidth, 16)
	checkInt(t, "MaxHeight", impl.MaxHeight, 12)
	checkInt(t, "MaxBlobs", impl.MaxBlobs, 8)
}

func TestFrameRight(t *testing.T) {
	for width := int64(-2); width <= 18; width++ {
		for height := int64(-2); height <= 14; height++ {
			fits := width >= 1 && width <= 16 && height >= 1 && height <= 12
			size := width * height
			for _, n := range []int64{0, 1, size - 1, size, size + 1, -size, 192} {
				f := frameOf(width, height, someBytes(int(max(n, 0))))
				if got, want := impl.FrameRight(f), fits && n == size; got != want {
					t.Errorf("%d by %d, and %d bytes: got %v", width, height, n, got)
				}
			}
		}
	}
	for _, f := range wrongFrames() {
		if impl.FrameRight(f) {
			t.Errorf("%s is not right", drawn(f))
		}
	}
	for i := range 256 {
		if !impl.FrameRight(evenFrame(3, 2, byte(i))) {
			t.Errorf("a frame of bytes %d is right", i)
		}
	}
}

func TestFrameLess(t *testing.T) {
	f := frameOf(4, 2, "\x00\x00\x00\x05\x05\xff\xff\xff")
	dark := frameOf(4, 2, "\x00\x01\xff\x04\x06\x00\x01\xff")
	checkFrame(t, "each kind", impl.FrameLess(f, dark), impl.FrameOut{Frame: frameOf(4, 2, "\x00\x00\x00\x01\x00\xff\xfe\x00")})
	checkFrame(t, "the other way round", impl.FrameLess(dark, f), impl.FrameOut{Frame: frameOf(4, 2, "\x00\x01\xff\x00\x01\x00\x00\x00")})
	checkFrame(t, "less itself", impl.FrameLess(f, f), impl.FrameOut{Frame: evenFrame(4, 2, 0)})
	checkFrame(t, "less nothing", impl.FrameLess(f, evenFrame(4, 2, 0)), impl.FrameOut{Frame: f})
	for a := range 256 {
		for b := range 256 {
			want := impl.FrameOut{Frame: evenFrame(2, 1, byte(max(a-b, 0)))}
			checkFrame(t, fmt.Sprint(a, " less ", b), impl.FrameLess(evenFrame(2, 1, byte(a)), evenFrame(2, 1, byte(b))), want)
		}
	}
	frames := someFrames(200)
	for i, f := range frames {
		dark := frameOf(f.Width, f.Height, someBytes(len(f.Pixels) + i)[i:])
		var want []byte
		for j := range len(f.Pixels) {
			want = append(want, byte(max(int(f.Pixels[j])-int(dark.Pixels[j]), 0)))
		}
		checkFrame(t, "FrameLess", impl.FrameLess(f, dark), impl.FrameOut{Frame: frameOf(f.Width, f.Height, string(want))})
	}
}

func TestFrameLessRefusals(t *testing.T) {
	form := impl.FrameOut{Code: impl.ErrForm}
	for _, w := range wrongFrames() {
		checkFrame(t, "the first is not right", impl.FrameLess(w, evenFrame(4, 3, 1)), form)
		checkFrame(t, "the second is not right", impl.FrameLess(evenFrame(4, 3, 255), w), form)
		checkFrame(t, "neither is right", impl.FrameLess(w, w), form)
	}
	sizes := []impl.Frame{
		evenFrame(1, 1, 9), evenFrame(4, 3, 9), evenFrame(3, 4, 9), evenFrame(4, 4, 9), evenFrame(5, 3, 9), evenFrame(6, 2, 9),
		evenFrame(12, 1, 9), evenFrame(1, 12, 9), evenFrame(16, 12, 9), evenFrame(16, 11, 9), evenFrame(15, 12, 9), evenFrame(12, 12, 9),
	}
	for i, f := range sizes {
		for j, dark := range sizes {
			want := form
			if i == j {
				want = impl.FrameOut{Frame: evenFrame(f.Width, f.Height, 0)}
			}
			checkFrame(t, fmt.Sprint(f.Width, f.Height, " less ", dark.Width, dark.Height), impl.FrameLess(f, dark), want)
		}
	}
}

func TestMedianOf(t *testing.T) {
	for _, c := range []struct {
		what   string
		width  int64
		height int64
		pixels string
		want   int64
	}{
		{"of one", 1, 1, "\x07", 7},
		{"of one that is 0", 1, 1, "\x00", 0},
		{"of one that is 255", 1, 1, "\xff", 255},
		{"of two", 2, 1, "\x09\x04", 4},
		{"of two that rise", 1, 2, "\x04\x09", 4},
		{"of 0 and 255", 2, 1, "\xff\x00", 0},
		{"of three", 3, 1, "\x09\x04\x05", 5},
		{"of three, the brightest first", 1, 3, "\xff\x7f\x80", 128},
		{"of three, two alike", 3, 1, "\x09\x04\x09", 9},
		{"of four", 2, 2, "\x09\x04\x05\xff", 5},
		{"of four, two alike in the midst", 2, 2, "\xff\x05\x00\x05", 5},
		{"of four, three dark", 4, 1, "\x00\xff\x00\x00", 0},
		{"of four, three bright", 4, 1, "\xff\x00\xff\xff", 255},
		{"of five", 5, 1, "\x80\x7f\x81\x00\xff", 128},
		{"of six", 3, 2, "\x06\x05\x04\x03\x02\x01", 3},
	} {
		checkInt(t, c.what, impl.MedianOf(frameOf(c.width, c.height, c.pixels)), c.want)
	}
	for i := range 256 {
		checkInt(t, "of like ones", impl.MedianOf(evenFrame(5, 4, byte(i))), int64(i))
	}
	for _, f := range append(someFrames(300), frameOf(16, 12, someBytes(192)), frameOf(15, 11, someBytes(165))) {
		checkInt(t, "MedianOf", impl.MedianOf(f), midst(f.Pixels))
	}
	for _, f := range wrongFrames() {
		checkInt(t, "of "+drawn(f), impl.MedianOf(f), 0)
	}
}

// midst is the least byte that half of all, at least, do not exceed.
func midst(pixels string) int64 {
	for light := range 256 {
		count := 0
		for _, p := range []byte(pixels) {
			if int(p) <= light {
				count++
			}
		}
		if 2*count >= len(pixels) {
			return int64(light)
		}
	}
	return -1
}

func TestBlobsOf(t *testing.T) {
	for _, c := range []struct {
		what string
		f    impl.Frame
		want []impl.Blob
	}{
		{"nothing", picture("...", "..."), nil},
		{"one pixel, and nothing else", picture("7"), []impl.Blob{outer(1, 7, 0, 0)}},
		{"one pixel in the midst", picture("...", ".7.", "..."), []impl.Blob{inner(1, 7, 7, 7)}},
		{"all", picture("111", "111"), []impl.Blob{outer(6, 6, 6, 3)}},
		{"side by side", picture("....", ".23.", "...."), []impl.Blob{inner(2, 5, 8, 5)}},
		{"one above the other", picture("...", ".2.", ".3.", "..."), []impl.Blob{inner(2, 5, 5, 8)}},
		{"a row between", picture(".....", ".2.3.", "....."), []impl.Blob{inner(1, 2, 2, 2), inner(1, 3, 9, 3)}},
		{"touching at a corner", picture("....", ".2..", "..3.", "...."), []impl.Blob{inner(1, 2, 2, 2), inner(1, 3, 6, 6)}},
		{"touching at the other corner", picture("....", "..2.", ".3..", "...."), []impl.Blob{inner(1, 2, 4, 2), inner(1, 3, 3, 6)}},
		{"a corner filled", picture("....", ".21.", "..3.", "...."), []impl.Blob{inner(3, 6, 10, 9)}},
		{"the end of a row, and the start of the next", picture("..1", "2.."), []impl.Blob{outer(1, 1, 2, 0), outer(1, 2, 0, 2)}},
		{"the last pixel of the last row", picture("...", "..9"), []impl.Blob{outer(1, 9, 18, 9)}},
		{"a ring", picture(".....", ".111.", ".1.1.", ".111.", "....."), []impl.Blob{inner(8, 8, 16, 16)}},
		{"a ring with one within", picture("11111", "1...1", "1.5.1", "1...1", "11111"), []impl.Blob{outer(16, 16, 32, 32), inner(1, 5, 10, 10)}},
		{"a ring within a ring", picture("1111111", "1.....1", "1.222.1", "1.2.2.1", "1.222.1", "1.....1", "1111111"), []impl.Blob{outer(24, 24, 72, 72), inner(8, 16, 48, 48)}},
		{"joined below", picture("1.2", "1.2", "111"), []impl.Blob{outer(7, 9, 11, 9)}},
		{"joined on the right", picture("11", ".1", "11"), []impl.Blob{outer(5, 5, 3, 5)}},
		{"found from below on the left", picture(".....", "...1.", ".111.", ".1...", "....."), []impl.Blob{inner(5, 5, 10, 10)}},
		{"up again on the left", picture("...1", "1..1", "1111"), []impl.Blob{outer(7, 7, 12, 10)}},
		{"a comb", picture("1.1.1", "1.1.1", "11111"), []impl.Blob{outer(11, 11, 22, 13)}},
		{"a spiral", picture("11111", "....1", "111.1", "1...1", "11111"), []impl.Blob{outer(17, 17, 35, 35)}},
		{"by their first pixels, not by their columns", picture("....2", "3....", "..1.."), []impl.Blob{outer(1, 2, 8, 0), outer(1, 3, 0, 3), outer(1, 1, 2, 2)}},
		{"one that begins earlier and is larger", picture("..1.", "2.1.", "..1."), []impl.Blob{outer(3, 3, 6, 3), outer(1, 2, 0, 2)}},
		{"as bright as may be", evenFrame(16, 12, 255), []impl.Blob{outer(192, 48960, 367200, 269280)}},
	} {
		checkBlobs(t, c.what, impl.BlobsOf(c.f, 0), impl.BlobsOut{Blobs: c.want})
		checkBlobs(t, c.what+", the second opinion", plainBlobsOf(c.f, 0), impl.BlobsOut{Blobs: c.want})
	}
}

func TestBlobsOfLevels(t *testing.T) {
	form := impl.BlobsOut{Code: impl.ErrForm}
	f := frameOf(5, 1, "\x00\x01\x80\xfe\xff")
	for _, c := range []struct {
		level int64
		want  impl.BlobsOut
	}{
		{-1, form},
		{0, impl.BlobsOut{Blobs: []impl.Blob{outer(4, 638, 2039, 0)}}},
		{1, impl.BlobsOut{Blobs: []impl.Blob{outer(3, 637, 2038, 0)}}},
		{127, impl.BlobsOut{Blobs: []impl.Blob{outer(3, 637, 2038, 0)}}},
		{128, impl.BlobsOut{Blobs: []impl.Blob{outer(2, 509, 1782, 0)}}},
		{253, impl.BlobsOut{Blobs: []impl.Blob{outer(2, 509, 1782, 0)}}},
		{254, impl.BlobsOut{Blobs: []impl.Blob{outer(1, 255, 1020, 0)}}},
		{255, impl.BlobsOut{}},
		{256, form},
		{257, form},
		{-256, form},
		{512, form},
	} {
		checkBlobs(t, fmt.Sprint("level ", c.level), impl.BlobsOf(f, c.level), c.want)
	}
	for _, n := range farNumbers() {
		checkBlobs(t, fmt.Sprint("level ", n), impl.BlobsOf(f, n), form)
	}
	for light := range 256 {
		for level := range 256 {
			want := 0
			if light > level {
				want = 1
			}
			got := impl.BlobsOf(evenFrame(2, 2, byte(light)), int64(level))
			if got.Code != impl.OK || len(got.Blobs) != want {
				t.Errorf("bytes of %d, level %d: got %+v", light, level, got)
			}
		}
	}
}

func TestBlobsOfRefusals(t *testing.T) {
	form := impl.BlobsOut{Code: impl.ErrForm}
	for _, f := range wrongFrames() {
		for _, level := range []int64{-1, 0, 254, 255, 256, math.MinInt64, math.MaxInt64} {
			checkBlobs(t, fmt.Sprint(drawn(f), ", level ", level), impl.BlobsOf(f, level), form)
		}
	}
	checkBlobs(t, "too many, and a level that may not be", impl.BlobsOf(picture("1.1.1.1.1.1.1.1.", "................", "1..............."), 256), form)
}

func TestBlobsOfFull(t *testing.T) {
	full := impl.BlobsOut{Code: impl.ErrFull}
	for _, c := range []struct {
		what string
		f    impl.Frame
		many int
	}{
		{"eight in a row", picture("1.1.1.1.1.1.1.1."), 8},
		{"eight in a row, and the last pixel", picture("1.1.1.1.1.1.1.1.", "...............1"), 9},
		{"eight in a row, the last one larger", picture("1.1.1.1.1.1.1.11", "...............1"), 8},
		{"eight in two rows", picture("1.1.1.1.", ".1.1.1.1"), 8},
		{"nine in two rows", picture("1.1.1.1.1", ".1.1.1.1."), 9},
		{"nine in three rows", picture("1.1.1", ".....", "1.1.1", ".....", "1.1.1"), 9},
		{"eight in three rows", picture("1.1.1", ".....", "1...1", ".....", "1.1.1"), 8},
		{"nine on the way, eight of which are one", picture("1.1.1.1.1.1.1.1.", "111111111111111.", "................", "1..............."), 2},
		{"seven, and two that are joined at last", picture("1.1.1.1.1.1.1.1.", "............1.1.", "............111.", "................", ".1.............."), 8},
		{"as many as can be", picture(".1.1.1.1.1.1.1.1", "1.1.1.1.1.1.1.1.", ".1.1.1.1.1.1.1.1", "1.1.1.1.1.1.1.1."), 32},
	} {
		want := full
		if c.many <= 8 {
			want = impl.BlobsOut{Blobs: plainBlobs(c.f, 0)}
		}
		checkInt(t, c.what+", how many", int64(len(plainBlobs(c.f, 0))), int64(c.many))
		checkBlobs(t, c.what, impl.BlobsOf(c.f, 0), want)
		checkBlobs(t, c.what+", above all", impl.BlobsOf(c.f, 1), impl.BlobsOut{})
	}
}

// A pixel at each place of a frame is at its edge, or is not.
func TestBlobEdges(t *testing.T) {
	for _, size := range [][2]int64{{1, 1}, {1, 5}, {5, 1}, {2, 5}, {5, 2}, {3, 3}, {5, 4}, {16, 12}, {16, 3}, {3, 12}} {
		width, height := size[0], size[1]
		for y := range height {
			for x := range width {
				within := x > 0 && x < width-1 && y > 0 && y < height-1
				want := []impl.Blob{{Area: 1, Sum: 200, SumX: 200 * x, SumY: 200 * y, Edge: !within}}
				got := impl.BlobsOf(withPixel(evenFrame(width, height, 3), x, y, 200), 3)
				checkBlobs(t, fmt.Sprint("a pixel at ", x, y, " of ", size), got, impl.BlobsOut{Blobs: want})
			}
		}
	}
	// The edge may be reached by one pixel alone, wherever in the blob it is.
	square := picture("......", ".1111.", ".1111.", ".1111.", "......")
	if b := impl.BlobsOf(square, 0).Blobs; len(b) != 1 || b[0].Edge {
		t.Errorf("one pixel away from each side: got %+v", b)
	}
	for _, p := range [][2]int64{{1, 0}, {4, 0}, {0, 1}, {0, 3}, {5, 1}, {5, 3}, {1, 4}, {4, 4}, {2, 0}, {3, 4}, {0, 2}, {5, 2}} {
		if b := impl.BlobsOf(withPixel(square, p[0], p[1], 1), 0).Blobs; len(b) != 1 || !b[0].Edge {
			t.Errorf("up to the edge at %v: got %+v", p, b)
		}
	}
	for _, p := range [][2]int64{{0, 0}, {5, 0}, {0, 4}, {5, 4}} {
		b := impl.BlobsOf(withPixel(square, p[0], p[1], 1), 0).Blobs
		if len(b) != 2 || b[0].Edge == b[1].Edge {
			t.Errorf("a corner alone at %v: got %+v", p, b)
		}
	}
}

// All shapes that a small frame can show.
func TestBlobsOfAllShapes(t *testing.T) {
	for _, size := range [][2]int64{{4, 4}, {3, 5}, {12, 1}, {1, 12}, {6, 2}} {
		count := int(size[0] * size[1])
		pixels := make([]byte, count)
		for shape := range 1 << count {
			for i := range pixels {
				pixels[i] = byte(i + 1)
				if shape>>i&1 == 1 {
					pixels[i] += 100
				}
			}
			f := frameOf(size[0], size[1], string(pixels))
			checkBlobs(t, fmt.Sprintf("%v %b", size, shape), impl.BlobsOf(f, 100), plainBlobsOf(f, 100))
		}
	}
}

func TestBlobsOfAgainstLabels(t *testing.T) {
	counts := map[int]int{}
	for i, f := range someFrames(3000) {
		for _, level := range []int64{0, int64(i % 256), 128, 200, 255} {
			got := impl.BlobsOf(f, level)
			checkBlobs(t, fmt.Sprint(drawn(f), ", level ", level), got, plainBlobsOf(f, level))
			counts[len(got.Blobs)]++
		}
	}
	for n := range 9 {
		if counts[n] == 0 {
			t.Errorf("no frame of %d blobs was tried", n)
		}
	}
}

// Promise 6, of all that is above the level.
func TestBlobsHaveAllOnce(t *testing.T) {
	tried := 0
	for i, f := range someFrames(3000) {
		for _, level := range []int64{0, int64(i % 256), 150, 220} {
			got := impl.BlobsOf(f, level)
			if got.Code != impl.OK {
				continue
			}
			var have, want impl.Blob
			for _, b := range got.Blobs {
				tried++
				have.Area += b.Area
				have.Sum += b.Sum
				have.SumX += b.SumX
				have.SumY += b.SumY
			}
			for j := range int64(len(f.Pixels)) {
				if light := int64(f.Pixels[j]); light > level {
					want.Area++
					want.Sum += light
					want.SumX += light * (j % f.Width)
					want.SumY += light * (j / f.Width)
				}
			}
			if have != want {
				t.Errorf("%s, level %d: the blobs have %+v of %+v", drawn(f), level, have, want)
			}
		}
	}
	if tried < 3000 {
		t.Errorf("just %d blobs were tried", tried)
	}
}

// inOrder are blobs in an order that does not hang on where they are first met.
func inOrder(blobs []impl.Blob) []impl.Blob {
	return slices.SortedFunc(slices.Values(blobs), func(a impl.Blob, b impl.Blob) int {
		return slices.Compare([]int64{a.SumX, a.SumY, a.Sum, a.Area}, []int64{b.SumX, b.SumY, b.Sum, b.Area})
	})
}

// Promise 6, of a mirror.
func TestBlobsInAMirror(t *testing.T) {
	tried := 0
	for i, f := range someFrames(3000) {
		level := int64(i % 256)
		got := impl.BlobsOf(f, level)
		beside, above := impl.BlobsOf(sideways(f), level), impl.BlobsOf(overhead(f), level)
		checkInt(t, "code of the mirror beside", beside.Code, got.Code)
		checkInt(t, "code of the mirror above", above.Code, got.Code)
		if len(beside.Blobs) != len(got.Blobs) || len(above.Blobs) != len(got.Blobs) {
			t.Errorf("%s, level %d: %d blobs, in the mirrors %d and %d", drawn(f), level, len(got.Blobs), len(beside.Blobs), len(above.Blobs))
			continue
		}
		for j := range got.Blobs {
			tried++
			beside.Blobs[j].SumX = (f.Width-1)*beside.Blobs[j].Sum - beside.Blobs[j].SumX
			above.Blobs[j].SumY = (f.Height-1)*above.Blobs[j].Sum - above.Blobs[j].SumY
		}
		want := impl.BlobsOut{Blobs: inOrder(got.Blobs), Code: got.Code}
		checkBlobs(t, "the mirror beside", impl.BlobsOut{Blobs: inOrder(beside.Blobs), Code: beside.Code}, want)
		checkBlobs(t, "the mirror above", impl.BlobsOut{Blobs: inOrder(above.Blobs), Code: above.Code}, want)
	}
	if tried < 1000 {
		t.Errorf("just %d blobs were tried", tried)
	}
}

func TestBlobGood(t *testing.T) {
	const lowest, highest = math.MinInt64, math.MaxInt64
	for _, c := range []struct {
		area, least, most int64
		want              bool
	}{
		{5, 5, 9, true}, {9, 5, 9, true}, {7, 5, 9, true}, {4, 5, 9, false}, {10, 5, 9, false},
		{1, 1, 20, true}, {20, 1, 20, true}, {0, 1, 20, false}, {21, 1, 20, false}, {5, 5, 5, true}, {5, 6, 4, false}, {5, 9, 5, false}, {5, 5, 4, false},
		{0, 0, 0, true}, {-3, -5, -1, true}, {-3, -2, -1, false}, {-3, -5, -4, false}, {0, -1, 1, true},
		{lowest, lowest, highest, true}, {highest, lowest, highest, true}, {0, lowest, highest, true}, {0, highest, lowest, false},
		{lowest, lowest, lowest, true}, {highest, highest, highest, true}, {lowest, lowest + 1, highest, false}, {highest, lowest, highest - 1, false},
		{lowest, highest, highest, false}, {highest, lowest, lowest, false}, {lowest, 1, 20, false}, {highest, 1, 20, false},
	} {
		b := impl.Blob{Area: c.area, Sum: 3, SumX: 4, SumY: 5}
		if got := impl.BlobGood(b, c.least, c.most); got != c.want {
			t.Errorf("an Area of %d, from %d to %d: got %v", c.area, c.least, c.most, got)
		}
		b = impl.Blob{Area: c.area, Sum: lowest, SumX: highest, SumY: -1}
		if got := impl.BlobGood(b, c.least, c.most); got != c.want {
			t.Errorf("an Area of %d, from %d to %d, of any sums: got %v", c.area, c.least, c.most, got)
		}
		b.Edge = true
		if impl.BlobGood(b, c.least, c.most) {
			t.Errorf("an Area of %d, from %d to %d, at the edge: it is not good", c.area, c.least, c.most)
		}
	}
}

func TestSpotOf(t *testing.T) {
	for _, c := range []struct {
		what  string
		b     impl.Blob
		w, h  int64
		focal int64
		want  impl.Vec
	}{
		{"in the midst", impl.Blob{Sum: 7, SumX: 7, SumY: 7}, 3, 3, 5, vec(0, 0, 1)},
		{"left of the midst", impl.Blob{Sum: 7, SumX: 0, SumY: 7}, 3, 3, 5, vec(-1, 0, 5)},
		{"right of the midst", impl.Blob{Sum: 7, SumX: 14, SumY: 7}, 3, 3, 5, vec(1, 0, 5)},
		{"above the midst", impl.Blob{Sum: 7, SumX: 7, SumY: 0}, 3, 3, 5, vec(0, -1, 5)},
		{"below the midst", impl.Blob{Sum: 7, SumX: 7, SumY: 14}, 3, 3, 5, vec(0, 1, 5)},
		{"between two pixels", impl.Blob{Sum: 2, SumX: 3, SumY: 1}, 4, 2, 1, vec(0, 0, 1)},
		{"half a pixel away", impl.Blob{Sum: 1, SumX: 1, SumY: 1}, 4, 2, 1, vec(-1, 1, 2)},
		{"a Sum of 1", impl.Blob{Sum: 1}, 1, 1, 1, vec(0, 0, 1)},
		{"a Sum of 1, and the greatest others", impl.Blob{Sum: 1, SumX: 15, SumY: 11}, 1, 1, 1, vec(15, 11, 1)},
		{"a Sum of 10000", impl.Blob{Sum: 10000}, 16, 12, 40, vec(-15, -11, 80)},
		{"a Sum of 10000, and the greatest others", impl.Blob{Sum: 10000, SumX: 150000, SumY: 110000}, 16, 12, 40, vec(15, 11, 80)},
		{"further right than the frame is", impl.Blob{Sum: 10000, SumX: 150000, SumY: 110000}, 1, 1, 40, vec(15, 11, 40)},
		{"not wide, but right", impl.Blob{Sum: 9999, SumX: 1, SumY: 2}, 16, 12, 40, vec(-149983, -109985, 799920)},
		{"no Area, or any", impl.Blob{Area: -5, Sum: 7, SumX: 7, SumY: 7}, 3, 3, 5, vec(0, 0, 1)},
		{"too large an Area", impl.Blob{Area: 500, Sum: 7, SumX: 14, SumY: 7}, 3, 3, 5, vec(1, 0, 5)},
		{"the greatest Area", impl.Blob{Area: math.MaxInt64, Sum: 7, SumX: 14, SumY: 7}, 3, 3, 5, vec(1, 0, 5)},
		{"at the edge", impl.Blob{Area: 1, Sum: 7, SumX: 14, SumY: 7, Edge: true}, 3, 3, 5, vec(1, 0, 5)},
	} {
		checkVec(t, c.what, impl.SpotOf(c.b, evenFrame(c.w, c.h, 9), c.focal), c.want)
		checkVec(t, c.what+", the second opinion", plainSpot(c.b, evenFrame(c.w, c.h, 9), c.focal), c.want)
	}
}

// limitBlobs are blobs whose sums are at, or just within, what they may be.
func limitBlobs() []impl.Blob {
	var out []impl.Blob
	for _, sum := range []int64{1, 2, 3, 255, 900, 1801, 5100, 9973, 9999, 10000} {
		for _, x := range []int64{0, 1, 7 * sum, 15*sum/2 + 1, 15*sum - 1, 15 * sum} {
			for _, y := range []int64{0, 1, 5 * sum, 11*sum/2 + 1, 11*sum - 1, 11 * sum} {
				out = append(out, impl.Blob{Area: 1, Sum: sum, SumX: x, SumY: y})
			}
		}
	}
	return out
}

// Promise 7.
func TestSpotsAreAheadAndPrime(t *testing.T) {
	check := func(b impl.Blob, f impl.Frame, focal int64) {
		v := impl.SpotOf(b, f, focal)
		if v.Z <= 0 {
			t.Errorf("%+v of %d by %d, focal %d: %v is not ahead", b, f.Width, f.Height, focal, v)
		}
		checkVec(t, "the prime of a spot", impl.Prime(v), v)
		checkVec(t, "the second opinion", v, plainSpot(b, f, focal))
	}
	for _, size := range [][2]int64{{1, 1}, {2, 1}, {1, 2}, {7, 5}, {15, 11}, {16, 12}, {16, 1}, {1, 12}} {
		for _, focal := range []int64{1, 2, 3, 8, 39, 40} {
			for _, b := range limitBlobs() {
				check(b, evenFrame(size[0], size[1], 0), focal)
			}
		}
	}
	for i, f := range someFrames(3000) {
		focal := int64(i%40) + 1
		for _, b := range impl.BlobsOf(f, int64(i%256)).Blobs {
			if b.Sum <= 10000 {
				check(b, f, focal)
			}
		}
		for _, v := range impl.SpotsOf(f, int64(i%256), focal) {
			if v.Z <= 0 || v != impl.Prime(v) {
				t.Errorf("%v of %s is not ahead, or not its own prime", v, drawn(f))
			}
		}
	}
}

func TestSpotOfRefusals(t *testing.T) {
	f := evenFrame(5, 4, 9)
	right := impl.Blob{Area: 3, Sum: 80, SumX: 140, SumY: 120}
	checkVec(t, "what is right", impl.SpotOf(right, f, 8), vec(-1, 0, 32))
	var wrong []impl.Blob
	for _, sum := range append(farNumbers(), 0, -1, -80, 10001, 1000000) {
		wrong = append(wrong, impl.Blob{Area: 3, Sum: sum, SumX: 140, SumY: 120}, impl.Blob{Area: 3, Sum: sum}, impl.Blob{Area: 3, Sum: sum, SumX: sum, SumY: sum})
	}
	for _, x := range append(farNumbers(), -1, 1201, -140) {
		wrong = append(wrong, impl.Blob{Area: 3, Sum: 80, SumX: x, SumY: 120})
	}
	for _, y := range append(farNumbers(), -1, 881, -120) {
		wrong = append(wrong, impl.Blob{Area: 3, Sum: 80, SumX: 140, SumY: y})
	}
	for _, sum := range []int64{1, 255, 10000} {
		wrong = append(wrong,
			impl.Blob{Sum: sum, SumX: 15*sum + 1}, impl.Blob{Sum: sum, SumY: 11*sum + 1}, impl.Blob{Sum: sum, SumX: -1}, impl.Blob{Sum: sum, SumY: -1},
			impl.Blob{Sum: sum, SumX: 15*sum + 1, SumY: 11 * sum}, impl.Blob{Sum: sum, SumX: 15 * sum, SumY: 11*sum + 1})
	}
	wrong = append(wrong, impl.Blob{}, impl.Blob{Sum: 10001, SumX: 150000, SumY: 110000})
	for _, b := range wrong {
		checkVec(t, fmt.Sprintf("%+v", b), impl.SpotOf(b, f, 8), impl.Vec{})
	}
	for _, w := range wrongFrames() {
		checkVec(t, "of "+drawn(w), impl.SpotOf(right, w, 8), impl.Vec{})
	}
	for _, focal := range append(farNumbers(), 0, -1, -8, 41, 42, 256) {
		checkVec(t, fmt.Sprint("focal ", focal), impl.SpotOf(right, f, focal), impl.Vec{})
	}
	for focal := int64(1); focal <= 40; focal++ {
		checkVec(t, fmt.Sprint("focal ", focal), impl.SpotOf(right, f, focal), plainSpot(right, f, focal))
	}
}

func TestSpotsOf(t *testing.T) {
	for _, c := range []struct {
		what string
		f    impl.Frame
		want []impl.Vec
	}{
		{"nothing", evenFrame(7, 5, 0), nil},
		{"one in the midst", picture(".......", ".......", "...9...", ".......", "......."), []impl.Vec{vec(0, 0, 1)}},
		{"one of an even frame", picture("....", ".9..", "....", "...."), []impl.Vec{vec(-1, -1, 16)}},
		{"in order", picture(".......", ".....1.", ".1.....", "...2...", "......."), []impl.Vec{vec(2, -1, 8), vec(-1, 0, 4), vec(0, 1, 8)}},
		{"none at the edge", picture("1......", ".....1.", "1......", "...2...", "...2..."), []impl.Vec{vec(2, -1, 8)}},
		{"all at the edge", picture("1.1.1", ".....", "1...1"), nil},
		{"the same way twice", picture(".......", ".11111.", ".1...1.", ".1.3.1.", ".1...1.", ".11111.", "......."), []impl.Vec{vec(0, 0, 1), vec(0, 0, 1)}},
		{"eight", picture(".......", ".1.1.1.", "..1.1..", ".1.1.1.", "......."), []impl.Vec{
			vec(-2, -1, 8), vec(0, -1, 8), vec(2, -1, 8), vec(-1, 0, 8), vec(1, 0, 8), vec(-2, 1, 8), vec(0, 1, 8), vec(2, 1, 8)}},
		{"nine", picture(".......", ".1.1.1.", "..1.1..", ".1.1.1.", "..1....", "......."), nil},
		{"eight, and one at the edge", picture(".......", ".1.1.1.", "..1.1..", ".1.1.1.", "......1"), nil},
	} {
		checkSpots(t, c.what, impl.SpotsOf(c.f, 0, 8), c.want)
		checkSpots(t, c.what+", the second opinion", plainSpots(c.f, 0, 8), c.want)
	}
}

// blobOfPixels is a frame with one blob of n pixels, away from the edge.
func blobOfPixels(n int, light byte) impl.Frame {
	f := evenFrame(16, 12, 0)
	for i := range int64(n) {
		f = withPixel(f, 1+i%14, 1+i/14, light)
	}
	return f
}

func TestSpotsOfAreas(t *testing.T) {
	for n := 1; n <= 140; n++ {
		// Of 1 each, so that each is wide.
		f := blobOfPixels(n, 1)
		want := []impl.Vec{plainSpot(plainBlobs(f, 0)[0], f, 1)}
		if n > 20 {
			want = nil
		}
		checkSpots(t, fmt.Sprint("a blob of pixels: ", n), impl.SpotsOf(f, 0, 1), want)
	}
}

// inRow is a frame with these bytes in its midst row, away from its first
// column.
func inRow(width int64, lights ...byte) impl.Frame {
	f := evenFrame(width, 3, 0)
	for i, light := range lights {
		f = withPixel(f, int64(i)+1, 1, light)
	}
	return f
}

// inColumn is a frame with these bytes in its midst column, away from its
// first row.
func inColumn(height int64, lights ...byte) impl.Frame {
	f := evenFrame(3, height, 0)
	for i, light := range lights {
		f = withPixel(f, 1, int64(i)+1, light)
	}
	return f
}

// Of parts of 1800, of 1801, and of other ones, of either sign.
func TestSpotsOfWide(t *testing.T) {
	for _, c := range []struct {
		f     impl.Frame
		focal int64
		spot  impl.Vec
		wide  bool
	}{
		{inRow(11, 200, 200, 200, 200, 199, 201, 200, 200, 200), 1, vec(1, 0, 1800), true},
		{inRow(11, 200, 200, 200, 200, 200, 201, 200, 200, 200), 1, vec(1, 0, 1801), false},
		{inRow(11, 200, 200, 200, 200, 201, 200, 200, 200, 200), 1, vec(0, 0, 1), true},
		{inRow(11, 0, 0, 0, 0, 224, 1), 8, vec(1, 0, 1800), true},
		{inRow(11, 0, 0, 0, 0, 52, 1), 34, vec(1, 0, 1802), false},
		{inRow(11, 0, 0, 0, 0, 44, 1), 40, vec(1, 0, 1800), true},
		{inRow(11, 0, 0, 0, 0, 45, 1), 40, vec(1, 0, 1840), false},
		{inRow(11, 0, 0, 0, 0, 44, 2), 40, vec(1, 0, 920), true},
		{inRow(15, 205, 114), 1, vec(-1800, 0, 319), true},
		{inRow(15, 196, 125), 1, vec(-1801, 0, 321), false},
		{inRow(15, 196, 125), 2, vec(-1801, 0, 642), false},
		{inRow(15, 195, 126), 1, vec(-600, 0, 107), true},
		{inColumn(11, 252, 254, 15), 1, vec(0, -1800, 521), true},
		{inColumn(11, 255, 255, 8), 1, vec(0, -1801, 518), false},
		{inColumn(11, 255, 255, 8), 3, vec(0, -1801, 1554), false},
		{inColumn(11, 255, 255, 255), 1, vec(0, -3, 1), true},
	} {
		for _, m := range []struct {
			f    impl.Frame
			spot impl.Vec
		}{
			{c.f, c.spot},
			{sideways(c.f), vec(-c.spot.X, c.spot.Y, c.spot.Z)},
			{overhead(c.f), vec(c.spot.X, -c.spot.Y, c.spot.Z)},
		} {
			b := impl.BlobsOf(m.f, 0).Blobs
			if len(b) != 1 {
				t.Fatalf("%s: got %+v", drawn(m.f), b)
			}
			checkVec(t, "SpotOf "+drawn(m.f), impl.SpotOf(b[0], m.f, c.focal), m.spot)
			want := []impl.Vec{m.spot}
			if !c.wide {
				want = nil
			}
			checkSpots(t, "SpotsOf "+drawn(m.f), impl.SpotsOf(m.f, 0, c.focal), want)
		}
	}
	// One that is not wide is left out, and those beside it are told.
	f := inRow(15, 196, 125, 0, 0, 0, 0, 9, 0, 0, 0, 0, 0, 7)
	checkSpots(t, "three", impl.SpotsOf(f, 0, 1), []impl.Vec{vec(0, 0, 1), vec(6, 0, 1)})
}

func TestSpotsOfRefusals(t *testing.T) {
	f := withPixel(evenFrame(5, 5, 128), 2, 2, 255)
	ahead := []impl.Vec{vec(0, 0, 1)}
	for level := int64(-2); level <= 258; level++ {
		var want []impl.Vec
		if level >= 128 && level <= 254 {
			want = ahead
		}
		checkSpots(t, fmt.Sprint("level ", level), impl.SpotsOf(f, level, 8), want)
	}
	low := withPixel(evenFrame(5, 5, 0), 2, 2, 1)
	checkSpots(t, "level 0", impl.SpotsOf(low, 0, 8), ahead)
	checkSpots(t, "level -1", impl.SpotsOf(low, -1, 8), nil)
	checkSpots(t, "just the level", impl.SpotsOf(low, 1, 8), nil)
	for focal := int64(-2); focal <= 43; focal++ {
		var want []impl.Vec
		if focal >= 1 && focal <= 40 {
			want = ahead
		}
		checkSpots(t, fmt.Sprint("focal ", focal), impl.SpotsOf(f, 128, focal), want)
	}
	for _, n := range farNumbers() {
		checkSpots(t, fmt.Sprint("level ", n), impl.SpotsOf(f, n, 8), nil)
		checkSpots(t, fmt.Sprint("focal ", n), impl.SpotsOf(f, 128, n), nil)
	}
	for _, w := range wrongFrames() {
		checkSpots(t, "of "+drawn(w), impl.SpotsOf(w, 0, 8), nil)
	}
	// A pixel that would be good, in a frame with a byte too few or too many.
	for _, pixels := range []string{f.Pixels[:24], f.Pixels + "\x80"} {
		checkSpots(t, "not as many bytes", impl.SpotsOf(frameOf(5, 5, pixels), 128, 8), nil)
	}
}

func TestSpotsOfAgainstLabels(t *testing.T) {
	tried := 0
	for i, f := range someFrames(3000) {
		for _, level := range []int64{0, int64(i % 256), 200, 240} {
			focal := int64(i%40) + 1
			got := impl.SpotsOf(f, level, focal)
			tried += len(got)
			checkSpots(t, fmt.Sprint(drawn(f), ", level ", level, ", focal ", focal), got, plainSpots(f, level, focal))
		}
	}
	if tried < 300 {
		t.Errorf("just %d spots were tried", tried)
	}
}

// askFrame asks all that takes a frame.
func askFrame(f impl.Frame) string {
	b := inner(3, 80, 140, 120)
	out := fmt.Sprintf("%v %+v %+v", impl.FrameRight(f), impl.FrameLess(f, f), impl.FrameLess(f, evenFrame(5, 4, 2)))
	return out + fmt.Sprint(impl.MedianOf(f), impl.BlobsOf(f, 5), impl.SpotOf(b, f, 8), impl.SpotsOf(f, 5, 8))
}

// What is handed in stays as it is, and the same is answered again.
func TestFrameArgumentsStay(t *testing.T) {
	for _, f := range append(wrongFrames(), someFrames(200)...) {
		was := frameOf(f.Width, f.Height, strings.Clone(f.Pixels))
		first := askFrame(f)
		if f != was {
			t.Errorf("what was handed in: got %s, want %s", drawn(f), drawn(was))
		}
		if again := askFrame(was); again != first {
			t.Errorf("asked again: got %q, want %q", again, first)
		}
	}
}

// An answer that is changed changes no other answer, and no Pixels are a piece
// of those that were handed in.
func TestFrameAnswersAreNewMemory(t *testing.T) {
	f, dark := evenFrame(5, 4, 200), evenFrame(5, 4, 0)
	less := impl.FrameLess(f, dark).Frame.Pixels
	if less != f.Pixels || shares(f.Pixels, less) || shares(dark.Pixels, less) {
		t.Error("FrameLess hands out the Pixels of f")
	}
	less = impl.FrameLess(f, f).Frame.Pixels
	if less != dark.Pixels || shares(f.Pixels, less) {
		t.Error("FrameLess hands out the Pixels of dark")
	}
	g := picture(".......", ".....1.", ".1.....", "...2...", ".......")
	blobs, spots := impl.BlobsOf(g, 0).Blobs, impl.SpotsOf(g, 0, 8)
	otherBlobs, otherSpots := impl.BlobsOf(g, 0).Blobs, impl.SpotsOf(g, 0, 8)
	clear(blobs[:cap(blobs)])
	clear(spots[:cap(spots)])
	want := []impl.Blob{inner(1, 1, 5, 1), inner(1, 1, 1, 2), inner(1, 2, 6, 6)}
	checkBlobs(t, "another answer", impl.BlobsOut{Blobs: otherBlobs}, impl.BlobsOut{Blobs: want})
	checkBlobs(t, "blobs again", impl.BlobsOf(g, 0), impl.BlobsOut{Blobs: want})
	checkSpots(t, "another answer", otherSpots, []impl.Vec{vec(2, -1, 8), vec(-1, 0, 4), vec(0, 1, 8)})
	checkSpots(t, "spots again", impl.SpotsOf(g, 0, 8), otherSpots)
}
