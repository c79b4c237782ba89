package tests

import (
	"encoding/binary"
	"fmt"
	"math"
	"slices"
	"strings"
	"testing"

	"loop.example/g00577/impl"
)

// star spares the names of the parts.
func star(id int64, x int64, y int64, z int64) impl.Star {
	return impl.Star{Id: id, At: vec(x, y, z)}
}

// pair spares the names of the parts.
func pair(a int64, b int64) impl.Pair {
	return impl.Pair{A: a, B: b}
}

// axes are six stars, of which each two are opposite or at a right angle.
func axes() []impl.Star {
	return []impl.Star{star(1, 1, 0, 0), star(2, 0, 1, 0), star(3, 0, 0, 1), star(5, -1, 0, 0), star(8, 0, -1, 0), star(9999, 0, 0, -1)}
}

// fullSky has MaxStars stars, the least and the greatest Id, and parts of
// MaxSmall of either sign.
func fullSky() []impl.Star {
	return []impl.Star{
		star(1, 10, -9, 10), star(2, -10, 10, 9), star(3, 9, 10, -10), star(10, -10, -10, -9), star(11, 0, 0, 1), star(12, 3, 0, 4),
		star(500, 0, -3, 4), star(501, 1, 1, 1), star(9996, -1, -1, -1), star(9997, 1, -1, 1), star(9998, -1, 1, -1), star(9999, 0, 0, -1),
	}
}

// manyStars are n stars, of which none alone is a fault.
func manyStars(n int) []impl.Star {
	var out []impl.Star
	for _, v := range allOf([]int64{-7, -5, -3, -2, 0, 1, 2, 3, 5, 7}) {
		if len(out) < n && hasNoDivisor(v) {
			out = append(out, impl.Star{Id: int64(len(out)) + 1, At: v})
		}
	}
	return out
}

// hasNoDivisor tells, of a small v, whether no number above 1 divides it.
func hasNoDivisor(v impl.Vec) bool {
	for n := int64(2); n <= 10; n++ {
		if v.X%n == 0 && v.Y%n == 0 && v.Z%n == 0 {
			return false
		}
	}
	return true
}

// rightSkies are right lists of all lengths.
func rightSkies() [][]impl.Star {
	out := [][]impl.Star{nil, {}, axes(), impl.DeskSky(), {star(1, 0, 0, -1)}, {star(9999, -10, 10, 1)}}
	for n := range 13 {
		out = append(out, fullSky()[:n], manyStars(n))
	}
	return out
}

// wrongStars are those that no right list has.
func wrongStars() []impl.Star {
	var out []impl.Star
	for _, id := range []int64{0, -1, 10000, 10001, 1 << 32, -1 << 32, math.MinInt64, math.MaxInt64} {
		out = append(out, star(id, 2, 3, 7))
	}
	for _, v := range append(wrongVecs(), inEachPlace(11)...) {
		out = append(out, impl.Star{Id: 50, At: v})
	}
	// Of just one part too long, which no number divides.
	for _, p := range []int64{11, -11} {
		out = append(out, star(50, p, 1, 0), star(50, 0, p, 1), star(50, 1, 0, p), star(50, p, 10, -10), star(50, 10, p, 10), star(50, -10, 10, p))
	}
	for _, v := range []impl.Vec{vec(2, 0, 0), vec(0, -2, 0), vec(0, 0, 3), vec(0, 0, -10), vec(2, 4, 6), vec(10, 10, 10), vec(-5, 0, 10), vec(6, -9, 3)} {
		out = append(out, impl.Star{Id: 50, At: v})
	}
	return out
}

// skyCase is a list of stars, and what is said of it.
type skyCase struct {
	what string
	l    []impl.Star
}

// wrongSkies are lists with one fault each, in each place.
func wrongSkies() []skyCase {
	out := []skyCase{
		{"one more than MaxStars", manyStars(13)},
		{"MaxList", manyStars(400)},
		{"one more than MaxList", manyStars(401)},
		{"two Ids alike", []impl.Star{star(7, 0, 0, 1), star(7, 0, 1, 0)}},
		{"two Ids alike at the end", append(axes()[:5], star(8, 0, 0, -1))},
		{"two Ids that fall", []impl.Star{star(8, 0, 0, 1), star(7, 0, 1, 0)}},
		{"two Ids that fall at the end", append(axes(), star(9998, 1, 2, 3))},
		{"the first Id is the greatest", append([]impl.Star{star(9999, 2, 3, 7)}, axes()[:5]...)},
		{"an Id that comes again", append(axes()[:5], star(1, 2, 3, 7))},
		{"two the same way", []impl.Star{star(1, 1, 2, 3), star(2, 1, 2, 3)}},
		{"the first and the last the same way", append(axes()[:5], star(9999, 1, 0, 0))},
		{"all the same way", []impl.Star{star(1, 0, 0, 1), star(2, 0, 0, 1), star(3, 0, 0, 1)}},
	}
	for _, w := range wrongStars() {
		out = append(out,
			skyCase{fmt.Sprint(w, " alone"), []impl.Star{w}},
			skyCase{fmt.Sprint(w, " first"), append([]impl.Star{w}, star(60, 0, 0, 1), star(61, 1, 0, 2))},
			skyCase{fmt.Sprint(w, " in the midst"), []impl.Star{star(40, 0, 0, 1), w, star(61, 1, 0, 2)}},
			skyCase{fmt.Sprint(w, " last"), []impl.Star{star(40, 0, 0, 1), star(41, 1, 0, 2), w}})
	}
	return out
}

// plainBytes is what the document says of the bytes, of any list, right or not.
func plainBytes(l []impl.Star) string {
	out := binary.AppendVarint(nil, int64(len(l)))
	for _, s := range l {
		for _, n := range []int64{s.Id, s.At.X, s.At.Y, s.At.Z} {
			out = binary.AppendVarint(out, n)
		}
	}
	return string(out)
}

// allPairs are the pairs of a list as they stand in it.
func allPairs(l []impl.Star) []impl.Pair {
	var out []impl.Pair
	for i := range l {
		for j := i + 1; j < len(l); j++ {
			out = append(out, pair(l[i].Id, l[j].Id))
		}
	}
	return out
}

// whereIs is a second opinion on StarOf.
func whereIs(l []impl.Star, id int64) impl.Vec {
	for _, s := range l {
		if s.Id == id {
			return s.At
		}
	}
	return impl.Vec{}
}

// plainPairs is a second opinion on PairsOf, by fractions.
func plainPairs(l []impl.Star) []impl.Pair {
	out := allPairs(l)
	slices.SortStableFunc(out, func(p impl.Pair, q impl.Pair) int {
		return int(bigCosCmp(whereIs(l, p.A), whereIs(l, p.B), whereIs(l, q.A), whereIs(l, q.B)))
	})
	return out
}

func checkPairs(t *testing.T, what string, got []impl.Pair, want []impl.Pair) {
	t.Helper()
	if !slices.Equal(got, want) {
		t.Errorf("%s: got %v, want %v", what, got, want)
	}
}

func checkStars(t *testing.T, what string, got []impl.Star, want []impl.Star) {
	t.Helper()
	if !slices.Equal(got, want) {
		t.Errorf("%s: got %v, want %v", what, got, want)
	}
}

func checkIds(t *testing.T, what string, got []int64, want []int64) {
	t.Helper()
	if !slices.Equal(got, want) {
		t.Errorf("%s: got %v, want %v", what, got, want)
	}
}

func checkSky(t *testing.T, what string, got impl.SkyOut, want impl.SkyOut) {
	t.Helper()
	if got.Code != want.Code || !slices.Equal(got.Sky, want.Sky) {
		t.Errorf("%s: got %+v, want %+v", what, got, want)
	}
}

func TestSkyConstants(t *testing.T) {
	checkInt(t, "MaxStars", impl.MaxStars, 12)
	checkInt(t, "fullSky", int64(len(fullSky())), 12)
	checkInt(t, "manyStars", int64(len(manyStars(401))), 401)
}

func TestSkyRight(t *testing.T) {
	for _, l := range rightSkies() {
		if !impl.SkyRight(l) {
			t.Errorf("%v is right", l)
		}
	}
	for _, c := range wrongSkies() {
		if impl.SkyRight(c.l) {
			t.Errorf("%s: is not right", c.what)
		}
	}
}

func TestSkyRightEdges(t *testing.T) {
	for _, c := range []struct {
		what string
		l    []impl.Star
		want bool
	}{
		{"an Id of 0", []impl.Star{star(0, 1, 0, 0)}, false},
		{"an Id of 1", []impl.Star{star(1, 1, 0, 0)}, true},
		{"an Id of 9999", []impl.Star{star(9999, 1, 0, 0)}, true},
		{"an Id of 10000", []impl.Star{star(10000, 1, 0, 0)}, false},
		{"Ids that rise by one", []impl.Star{star(1, 1, 0, 0), star(2, 0, 1, 0)}, true},
		{"opposite ones", []impl.Star{star(1, 1, 2, 3), star(2, -1, -2, -3)}, true},
		{"all but the same way", []impl.Star{star(1, 10, 9, 10), star(2, 9, 8, 9)}, true},
		{"the same way, the second one longer", []impl.Star{star(1, 1, 2, 3), star(2, 2, 4, 6)}, false},
		{"the same way, the first one longer", []impl.Star{star(1, 2, 4, 6), star(2, 1, 2, 3)}, false},
	} {
		if got := impl.SkyRight(c.l); got != c.want {
			t.Errorf("%s: got %v", c.what, got)
		}
	}
	for _, v := range allOf([]int64{-11, -10, -9, -1, 0, 1, 2, 4, 5, 10, 11}) {
		small := max(v.X, v.Y, v.Z) <= 10 && min(v.X, v.Y, v.Z) >= -10
		if got, want := impl.SkyRight([]impl.Star{{Id: 7, At: v}}), small && hasNoDivisor(v); got != want {
			t.Errorf("a star at %v: got %v", v, got)
		}
	}
}

func TestSkyBytes(t *testing.T) {
	for _, c := range []struct {
		what string
		l    []impl.Star
		want string
	}{
		{"none", nil, "\x00"},
		{"one", []impl.Star{star(1, 0, 0, -1)}, "\x02\x02\x00\x00\x01"},
		{"two", []impl.Star{star(63, -10, 10, 9), star(64, 1, 0, 0)}, "\x04\x7e\x13\x14\x12\x80\x01\x02\x00\x00"},
		{"the greatest Id", []impl.Star{star(9999, 0, -1, 0)}, "\x02\x9e\x9c\x01\x00\x01\x00"},
	} {
		if got := impl.SkyBytes(c.l); got != impl.Seal(c.want) {
			t.Errorf("SkyBytes, %s: got %q", c.what, got)
		}
	}
	for _, l := range rightSkies() {
		if got := impl.SkyBytes(l); got != impl.Seal(plainBytes(l)) {
			t.Errorf("SkyBytes(%v): got %q", l, got)
		}
	}
	for _, c := range wrongSkies() {
		if got := impl.SkyBytes(c.l); got != "" {
			t.Errorf("SkyBytes, %s: got %q", c.what, got)
		}
	}
}

// Promise 5, of the bytes.
func TestListsOfStarsComeBack(t *testing.T) {
	for _, l := range rightSkies() {
		checkSky(t, "read again", impl.SkyRead(impl.SkyBytes(l)), impl.SkyOut{Sky: l})
	}
}

func TestSkyReadOfWrongLists(t *testing.T) {
	syntax := impl.SkyOut{Code: impl.ErrSyntax}
	for _, c := range wrongSkies() {
		checkSky(t, c.what, impl.SkyRead(impl.Seal(plainBytes(c.l))), syntax)
	}
}

// What is sealed rightly, and is no list.
func TestSkyReadOfOtherBytes(t *testing.T) {
	syntax := impl.SkyOut{Code: impl.ErrSyntax}
	one := "\x02\x00\x00\x02"
	for _, c := range []struct{ what, text string }{
		{"nothing", ""},
		{"how many is cut off", "\x80"},
		{"how many is written too long", "\x80\x00"},
		{"as many as -1", "\x01"},
		{"as many as -1, and a star", "\x01" + one},
		{"the least number of stars", impl.PutNum(math.MinInt64)},
		{"the greatest number of stars", impl.PutNum(math.MaxInt64)},
		{"the greatest number of stars, and one", impl.PutNum(math.MaxInt64) + one},
		{"none, and something behind", "\x00\x00"},
		{"none, and a star behind", "\x00" + one},
		{"one, and none there", "\x02"},
		{"one, and two there", "\x02" + one + "\x04\x02\x00\x00"},
		{"two, and one there", "\x04" + one},
		{"13, and 12 there", "\x1a" + plainBytes(manyStars(12))[1:]},
		{"12, and 13 there", "\x18" + plainBytes(manyStars(13))[1:]},
		{"an Id written too long", "\x02" + "\x82\x00" + one[1:]},
		{"an X written too long", "\x02" + "\x02\x80\x00\x00\x02"},
		{"a Z written too long", "\x02" + "\x02\x00\x00\x82\x00"},
		{"a Z of eleven bytes", "\x02" + "\x02\x00\x00" + strings.Repeat("\x80", 10) + "\x01"},
		{"a seal in a seal", impl.SkyBytes(axes())},
	} {
		checkSky(t, c.what, impl.SkyRead(impl.Seal(c.text)), syntax)
	}
	for _, l := range [][]impl.Star{nil, axes(), fullSky()} {
		text := plainBytes(l)
		for cut := range len(text) {
			checkSky(t, "cut off under the seal", impl.SkyRead(impl.Seal(text[:cut])), syntax)
		}
		for b := range 256 {
			checkSky(t, "a byte behind, under the seal", impl.SkyRead(impl.Seal(text+string([]byte{byte(b)}))), syntax)
		}
	}
}

// One byte changed under a right seal makes another right list's bytes, or none.
func TestSkyReadIsWrittenOneWay(t *testing.T) {
	counts := map[int64]int{}
	for _, l := range [][]impl.Star{axes(), impl.DeskSky(), fullSky()} {
		text := []byte(plainBytes(l))
		for i, was := range text {
			for b := range 256 {
				text[i] = byte(b)
				sealed := impl.Seal(string(text))
				got := impl.SkyRead(sealed)
				counts[got.Code]++
				if got.Code == impl.OK && (!impl.SkyRight(got.Sky) || impl.SkyBytes(got.Sky) != sealed) {
					t.Errorf("%q is read as %v", text, got.Sky)
				} else if got.Code != impl.OK {
					checkSky(t, "beside a code", got, impl.SkyOut{Code: impl.ErrSyntax})
				}
			}
			text[i] = was
		}
	}
	if counts[impl.OK] == 0 || counts[impl.ErrSyntax] == 0 {
		t.Errorf("not all kinds were tried: %v", counts)
	}
}

// The seal is looked at ahead of what is under it, the size ahead of both.
func TestSkyReadSeals(t *testing.T) {
	sum, short := impl.SkyOut{Code: impl.ErrSum}, impl.SkyOut{Code: impl.ErrShort}
	for _, l := range [][]impl.Star{nil, axes(), manyStars(13)} {
		sealed := []byte(impl.Seal(plainBytes(l)))
		for i := range sealed {
			for _, turn := range []byte{1, 2, 64, 128, 255} {
				sealed[i] ^= turn
				checkSky(t, "a byte turned", impl.SkyRead(string(sealed)), sum)
				sealed[i] ^= turn
			}
		}
		for cut := range len(sealed) {
			want := sum
			if cut < 4 {
				want = short
			}
			checkSky(t, "cut off", impl.SkyRead(string(sealed[:cut])), want)
		}
		for b := range 256 {
			checkSky(t, "a byte behind", impl.SkyRead(string(sealed)+string([]byte{byte(b)})), sum)
		}
	}
	size := impl.SkyOut{Code: impl.ErrSize}
	checkSky(t, "no seal, MaxBytes", impl.SkyRead(strings.Repeat("\x00", 8000)), sum)
	checkSky(t, "no seal, one more", impl.SkyRead(strings.Repeat("\x00", 8001)), size)
	checkSky(t, "a seal, MaxBytes", impl.SkyRead(impl.Seal(strings.Repeat("\x00", 7996))), impl.SkyOut{Code: impl.ErrSyntax})
	checkSky(t, "a list, and more than MaxBytes", impl.SkyRead(impl.SkyBytes(axes())+strings.Repeat("\x00", 8000)), size)
}

func TestStarOf(t *testing.T) {
	for _, l := range rightSkies() {
		for _, s := range l {
			checkVec(t, "StarOf", impl.StarOf(l, s.Id), s.At)
		}
		for _, id := range []int64{0, -1, 4, 13, 9995, 10000, math.MinInt64, math.MaxInt64} {
			checkVec(t, "StarOf, perhaps of none", impl.StarOf(l, id), whereIs(l, id))
		}
	}
	for _, c := range wrongSkies() {
		for _, s := range c.l {
			checkVec(t, c.what, impl.StarOf(c.l, s.Id), impl.Vec{})
		}
	}
}

func TestPairsOf(t *testing.T) {
	checkPairs(t, "of none", impl.PairsOf(nil), nil)
	checkPairs(t, "of one", impl.PairsOf(axes()[:1]), nil)
	checkPairs(t, "of two", impl.PairsOf(axes()[4:]), []impl.Pair{pair(8, 9999)})
	checkPairs(t, "of the same cosine", impl.PairsOf(axes()), []impl.Pair{
		pair(1, 5), pair(2, 8), pair(3, 9999),
		pair(1, 2), pair(1, 3), pair(1, 8), pair(1, 9999), pair(2, 3), pair(2, 5), pair(2, 9999),
		pair(3, 5), pair(3, 8), pair(5, 8), pair(5, 9999), pair(8, 9999),
	})
	// Cosines of -1/2, 0, 1/2 and 1/2, 1/2, 1/2.
	checkPairs(t, "of three cosines", impl.PairsOf([]impl.Star{star(2, 1, 1, 0), star(4, 1, 0, 1), star(6, 0, 1, 1), star(7, -1, 1, 0)}),
		[]impl.Pair{pair(4, 7), pair(2, 7), pair(2, 4), pair(2, 6), pair(4, 6), pair(6, 7)})
	for _, l := range rightSkies() {
		got := impl.PairsOf(l)
		checkPairs(t, "PairsOf", got, plainPairs(l))
		checkInt(t, "how many", int64(len(got)), int64(len(l)*(len(l)-1)/2))
	}
	for _, c := range wrongSkies() {
		checkPairs(t, c.what, impl.PairsOf(c.l), nil)
	}
}

func TestAlike(t *testing.T) {
	x, y, far := vec(1, 0, 0), vec(0, 1, 0), vec(1800, -1800, 1800)
	desk := impl.DeskSky()
	for _, c := range []struct {
		what string
		l    []impl.Star
		a, b impl.Vec
		want []impl.Pair
	}{
		{"of none", nil, x, y, nil},
		{"of one", axes()[:1], x, x, nil},
		{"of two, and of their angle", axes()[4:], y, x, []impl.Pair{pair(8, 9999)}},
		{"of two, and of another angle", axes()[4:], x, vec(1, 1, 0), nil},
		{"no angle", axes(), x, x, nil},
		{"opposite", axes(), far, flip(far), []impl.Pair{pair(1, 5), pair(2, 8), pair(3, 9999)}},
		{"a cosine between the others", axes(), x, vec(-1, 1, 0), nil},
		{"a cosine above all others", axes(), x, vec(1800, 1, 0), nil},
		{"a cosine of one pair", desk, vec(0, 0, 3), vec(2, 0, 4), []impl.Pair{pair(1, 2)}},
		{"a cosine of two pairs", desk, vec(0, 0, 1800), x, []impl.Pair{pair(1, 6), pair(3, 6)}},
		{"the least cosine", desk, vec(-1, -1, 2), x, []impl.Pair{pair(4, 6)}},
		{"the greatest cosine", desk, vec(1, 0, 2), vec(2, 1, 5), []impl.Pair{pair(2, 5)}},
		{"all but the greatest cosine", desk, vec(100, 0, 200), vec(200, 101, 500), nil},
	} {
		checkPairs(t, c.what, impl.Alike(c.l, c.a, c.b), c.want)
		checkPairs(t, c.what+", the sides changed", impl.Alike(c.l, c.b, c.a), c.want)
	}
}

// Each is a part of PairsOf, in its order, and nothing else.
func TestAlikeAgainstFractions(t *testing.T) {
	for _, l := range [][]impl.Star{nil, axes(), impl.DeskSky(), fullSky()} {
		all := plainPairs(l)
		for _, a := range wideVecs() {
			for _, b := range wideVecs() {
				angle := signedCosSquare(a, b)
				var want []impl.Pair
				for _, p := range all {
					if signedCosSquare(whereIs(l, p.A), whereIs(l, p.B)).Cmp(angle) == 0 {
						want = append(want, p)
					}
				}
				checkPairs(t, fmt.Sprint("Alike ", a, b), impl.Alike(l, a, b), want)
			}
		}
	}
}

// Promise 5, of two stars that are turned.
func TestTurnedStarsAreFound(t *testing.T) {
	for _, l := range [][]impl.Star{axes(), impl.DeskSky(), fullSky()} {
		all := rightTurns(5)
		// Every so many turns is enough, with each pair beginning at another one.
		for n, p := range allPairs(l) {
			a, b := whereIs(l, p.A), whereIs(l, p.B)
			same := impl.Alike(l, a, b)
			for i := n; i < len(all); i += 67 {
				found := impl.Alike(l, impl.Apply(all[i], a), impl.Apply(all[i], b))
				if !slices.Contains(found, p) {
					t.Errorf("%v turned by %v: found are %v", p, all[i], found)
				}
				checkPairs(t, "the pairs of a turned angle", found, same)
			}
		}
	}
}

func TestAlikeRefusals(t *testing.T) {
	x, y := vec(1, 0, 0), vec(0, 1, 0)
	for _, c := range wrongSkies() {
		checkPairs(t, c.what, impl.Alike(c.l, x, y), nil)
		for i := 1; i < len(c.l) && i < 14; i++ {
			checkPairs(t, c.what, impl.Alike(c.l, c.l[i-1].At, c.l[i].At), nil)
		}
	}
	for _, w := range append(wrongVecs(), inEachPlace(1801)...) {
		checkPairs(t, "the first not right or not wide", impl.Alike(axes(), w, x), nil)
		checkPairs(t, "the second not right or not wide", impl.Alike(axes(), y, w), nil)
		checkPairs(t, "both not right or not wide", impl.Alike(axes(), w, flip(w)), nil)
	}
	right := impl.PairsOf(axes())[3:]
	for n, want := range map[int64][]impl.Pair{1800: right, 1801: nil, 1000000: nil} {
		for _, n := range []int64{n, -n} {
			checkPairs(t, "X of the first", impl.Alike(axes(), vec(n, 0, 0), y), want)
			checkPairs(t, "Y of the first", impl.Alike(axes(), vec(0, n, 0), x), want)
			checkPairs(t, "Z of the first", impl.Alike(axes(), vec(0, 0, n), x), want)
			checkPairs(t, "X of the second", impl.Alike(axes(), y, vec(n, 0, 0)), want)
			checkPairs(t, "Y of the second", impl.Alike(axes(), x, vec(0, n, 0)), want)
			checkPairs(t, "Z of the second", impl.Alike(axes(), x, vec(0, 0, n)), want)
		}
	}
}

func TestSeen(t *testing.T) {
	none := turn(1, 0, 0, 0)
	desk := impl.DeskSky()
	// Of the cosines 1, 0.8, 0.6, 0, -0.6 and -1, and one a little below 1.
	sides := []impl.Star{star(2, 0, 0, 1), star(3, 3, 0, 4), star(5, 0, -4, 3), star(6, 1, 1, 0), star(7, -4, 0, -3), star(8, 0, 0, -1), star(9, 1, 0, 10)}
	for _, c := range []struct {
		what string
		l    []impl.Star
		t    impl.Turn
		cone int64
		want []int64
	}{
		{"of none", nil, none, 0, nil},
		{"all that are ahead", sides, none, 0, []int64{2, 3, 5, 9}},
		{"nearly all that are ahead", sides, none, 1, []int64{2, 3, 5, 9}},
		{"one just on the edge", sides, none, 60, []int64{2, 3, 5, 9}},
		{"one just behind the edge", sides, none, 61, []int64{2, 3, 9}},
		{"another just on the edge", sides, none, 80, []int64{2, 3, 9}},
		{"another just behind the edge", sides, none, 81, []int64{2, 9}},
		{"one near the midst", sides, none, 99, []int64{2, 9}},
		{"the midst alone", sides, none, 100, []int64{2}},
		{"below 0", sides, none, -1, nil},
		{"above 100", sides, none, 101, nil},
		{"far below 0", sides, none, math.MinInt64, nil},
		{"far above 100", sides, none, math.MaxInt64, nil},
		{"a cone whose square wraps round", sides, none, 1 << 32, nil},
		{"turned upside down", sides, turn(0, 1, 0, 0), 0, []int64{7, 8}},
		{"turned upside down, on the edge", sides, turn(0, 1, 0, 0), 60, []int64{7, 8}},
		{"turned upside down, behind the edge", sides, turn(0, 1, 0, 0), 61, []int64{8}},
		{"a quarter about X: Y to Z", sides, turn(1, 1, 0, 0), 0, []int64{6}},
		{"a quarter about Y back: X to Z", sides, turn(1, 0, -1, 0), 0, []int64{3, 6, 9}},
		{"a turn that makes longer, on the edge", sides, turn(5, 0, 0, 4), 80, []int64{2, 3, 9}},
		{"a turn that makes longer, behind the edge", sides, turn(5, 0, 0, 4), 81, []int64{2, 9}},
		{"of the desk", desk, none, 0, []int64{1, 2, 3, 4, 5}},
		{"of the desk, narrow", desk, none, 94, []int64{1, 3}},
		{"of the desk, upside down", desk, turn(0, 0, 1, 0), 0, nil},
	} {
		checkIds(t, c.what, impl.Seen(c.l, c.t, c.cone), c.want)
	}
}

// seenBy is a second opinion on Seen, of the words of the document.
func seenBy(l []impl.Star, q impl.Turn, cone int64) []int64 {
	var out []int64
	for _, s := range l {
		v := turned(q, s.At)
		if v.Z > 0 && 10000*v.Z*v.Z >= cone*cone*(v.X*v.X+v.Y*v.Y+v.Z*v.Z) {
			out = append(out, s.Id)
		}
	}
	return out
}

func TestSeenByAllTurns(t *testing.T) {
	lists := [][]impl.Star{axes(), impl.DeskSky(), fullSky(), manyStars(12)}
	for i, q := range rightTurns(5) {
		cone := int64(i % 101)
		l := lists[i%len(lists)]
		checkIds(t, fmt.Sprint("Seen ", q, cone), impl.Seen(l, q, cone), seenBy(l, q, cone))
	}
	for _, q := range mixedTurns() {
		for cone := int64(0); cone <= 100; cone++ {
			for _, l := range lists {
				checkIds(t, fmt.Sprint("Seen ", q, cone), impl.Seen(l, q, cone), seenBy(l, q, cone))
			}
		}
	}
}

func TestSeenRefusals(t *testing.T) {
	for _, c := range wrongSkies() {
		for _, q := range []impl.Turn{turn(1, 0, 0, 0), turn(0, 1, 0, 0)} {
			checkIds(t, c.what, impl.Seen(c.l, q, 0), nil)
		}
	}
	for _, q := range wrongTurns() {
		checkIds(t, fmt.Sprint("by ", q), impl.Seen(axes(), q, 0), nil)
	}
}

// askAll asks all that takes a list.
func askAll(l []impl.Star) string {
	out := fmt.Sprintf("%v %q", impl.SkyRight(l), impl.SkyBytes(l))
	return out + fmt.Sprint(impl.StarOf(l, 2), impl.PairsOf(l), impl.Alike(l, vec(1, 0, 0), vec(0, 1, 0)), impl.Seen(l, turn(1, 0, 0, 0), 0))
}

// What is handed in stays as it is, also behind its end, up to what it may
// grow to, and the same is answered again.
func TestSkyArgumentsStay(t *testing.T) {
	for _, whole := range [][]impl.Star{axes(), impl.DeskSky(), fullSky(), manyStars(14), {star(3, 1, 0, 0), star(2, 0, 1, 0), star(1, 2, 2, 2)}} {
		for n := range len(whole) + 1 {
			was := slices.Clone(whole)
			first := askAll(whole[:n])
			checkStars(t, "what was handed in", whole, was)
			if again := askAll(whole[:n]); again != first {
				t.Errorf("asked again: got %s, want %s", again, first)
			}
			if other := askAll(slices.Clone(whole[:n])); other != first {
				t.Errorf("asked of a copy: got %s, want %s", other, first)
			}
		}
	}
}

// An answer that is changed changes neither the list nor another answer.
func TestSkyAnswersAreNewMemory(t *testing.T) {
	l := axes()
	bytes := impl.SkyBytes(l)
	read, other := impl.SkyRead(bytes).Sky, impl.SkyRead(bytes).Sky
	pairs, alike, seen := impl.PairsOf(l), impl.Alike(l, vec(1, 0, 0), vec(0, 1, 0)), impl.Seen(l, turn(1, 0, 0, 0), 0)
	for i := range l {
		l[i] = impl.Star{}
	}
	checkStars(t, "read, behind a change", read, axes())
	checkPairs(t, "pairs, behind a change", pairs, plainPairs(axes()))
	checkPairs(t, "alike, behind a change", alike, plainPairs(axes())[3:])
	checkIds(t, "seen, behind a change", seen, []int64{3})
	copy(l, axes())
	for i := range read {
		read[i] = impl.Star{}
	}
	for _, list := range [][]impl.Pair{pairs[:cap(pairs)], alike[:cap(alike)]} {
		for i := range list {
			list[i] = impl.Pair{}
		}
	}
	seen[0] = 0
	checkStars(t, "the list, behind changes of answers", l, axes())
	checkStars(t, "another answer", other, axes())
	checkPairs(t, "pairs again", impl.PairsOf(l), plainPairs(axes()))
	checkPairs(t, "alike again", impl.Alike(l, vec(1, 0, 0), vec(0, 1, 0)), plainPairs(axes())[3:])
	checkIds(t, "seen again", impl.Seen(l, turn(1, 0, 0, 0), 0), []int64{3})
}
