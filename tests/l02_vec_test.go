package tests

import (
	"math"
	"math/big"
	"testing"

	"loop.example/g00577/impl"
)

// vec spares the names of the parts.
func vec(x int64, y int64, z int64) impl.Vec {
	return impl.Vec{X: x, Y: y, Z: z}
}

// flip is v with the other sign.
func flip(v impl.Vec) impl.Vec {
	return vec(-v.X, -v.Y, -v.Z)
}

// longer is v so many times.
func longer(v impl.Vec, n int64) impl.Vec {
	return vec(v.X*n, v.Y*n, v.Z*n)
}

// longParts are right parts: small ones, the limits and their neighbours.
func longParts() []int64 {
	return []int64{-1000000, -999999, -1801, -10, -1, 0, 1, 2, 11, 1800, 999998, 1000000}
}

// farParts are parts of no right Vec.
func farParts() []int64 {
	return []int64{-1000001, 1000001, 1 << 32, -1 << 32, math.MinInt64, math.MinInt64 + 1, math.MaxInt64}
}

// wrongVecs are the zero one, and those with one part too far in each place.
func wrongVecs() []impl.Vec {
	out := []impl.Vec{{}}
	for _, p := range farParts() {
		out = append(out, vec(p, 1, 2), vec(1, p, 2), vec(1, 2, p), vec(p, 0, 0), vec(0, p, 0), vec(0, 0, p), vec(p, p, p))
	}
	return out
}

// allOf are the right Vecs of these parts.
func allOf(parts []int64) []impl.Vec {
	var out []impl.Vec
	for _, x := range parts {
		for _, y := range parts {
			for _, z := range parts {
				if x != 0 || y != 0 || z != 0 {
					out = append(out, vec(x, y, z))
				}
			}
		}
	}
	return out
}

// mixedVecs are right ones of all lengths, few enough to take three at a time.
func mixedVecs() []impl.Vec {
	return append(allOf([]int64{-1000000, 0, 1000000}),
		vec(1, 2, 3), vec(4, 5, 6), vec(-7, 11, 13), vec(999983, -999979, 999961),
		vec(1, 0, 1000000), vec(-1, 999999, 0), vec(1800, -1800, 1799), vec(10, -9, 8), vec(0, 0, -1))
}

// bigDot is a second opinion, in numbers without a limit.
func bigDot(a impl.Vec, b impl.Vec) *big.Int {
	sum := new(big.Int)
	for _, p := range [3][2]int64{{a.X, b.X}, {a.Y, b.Y}, {a.Z, b.Z}} {
		sum.Add(sum, new(big.Int).Mul(big.NewInt(p[0]), big.NewInt(p[1])))
	}
	return sum
}

// bigDet is Det by the rule of Sarrus, in numbers without a limit.
func bigDet(a impl.Vec, b impl.Vec, c impl.Vec) *big.Int {
	sum := new(big.Int)
	for i, p := range [6][3]int64{
		{a.X, b.Y, c.Z}, {a.Y, b.Z, c.X}, {a.Z, b.X, c.Y},
		{a.Z, b.Y, c.X}, {a.X, b.Z, c.Y}, {a.Y, b.X, c.Z},
	} {
		one := big.NewInt(p[0])
		one.Mul(one, big.NewInt(p[1])).Mul(one, big.NewInt(p[2]))
		if i < 3 {
			sum.Add(sum, one)
		} else {
			sum.Sub(sum, one)
		}
	}
	return sum
}

// bigCosCmp holds the cosines against each other as roots of fractions.
func bigCosCmp(a impl.Vec, b impl.Vec, c impl.Vec, d impl.Vec) int64 {
	first, second := signedCosSquare(a, b), signedCosSquare(c, d)
	return int64(first.Cmp(second))
}

// signedCosSquare is the square of the cosine, with the cosine's sign.
func signedCosSquare(a impl.Vec, b impl.Vec) *big.Rat {
	dot := bigDot(a, b)
	lengths := new(big.Int).Mul(bigDot(a, a), bigDot(b, b))
	out := new(big.Rat).SetFrac(new(big.Int).Mul(dot, dot), lengths)
	if dot.Sign() < 0 {
		out.Neg(out)
	}
	return out
}

func checkVec(t *testing.T, what string, got impl.Vec, want impl.Vec) {
	t.Helper()
	if got != want {
		t.Errorf("%s: got %v, want %v", what, got, want)
	}
}

func checkInt(t *testing.T, what string, got int64, want int64) {
	t.Helper()
	if got != want {
		t.Errorf("%s: got %d, want %d", what, got, want)
	}
}

func TestVecConstants(t *testing.T) {
	checkInt(t, "MaxWide", impl.MaxWide, 1800)
	checkInt(t, "MaxSmall", impl.MaxSmall, 10)
}

func TestVecRight(t *testing.T) {
	for _, v := range allOf(longParts()) {
		if !impl.VecRight(v) {
			t.Errorf("%v is right", v)
		}
	}
	for _, v := range wrongVecs() {
		if impl.VecRight(v) {
			t.Errorf("%v is not right", v)
		}
	}
}

func TestDot(t *testing.T) {
	checkInt(t, "ordinary", impl.Dot(vec(1, 2, 3), vec(4, 5, 6)), 32)
	checkInt(t, "a right angle", impl.Dot(vec(1, 1, 0), vec(1, -1, 5)), 0)
	checkInt(t, "above a right angle", impl.Dot(vec(2, 0, 1), vec(-3, 7, 1)), -5)
	checkInt(t, "the greatest", impl.Dot(vec(1000000, 1000000, 1000000), vec(1000000, 1000000, 1000000)), 3000000000000)
	checkInt(t, "the least", impl.Dot(vec(1000000, -1000000, 1000000), vec(-1000000, 1000000, -1000000)), -3000000000000)
	for _, a := range mixedVecs() {
		for _, b := range mixedVecs() {
			if want := bigDot(a, b); big.NewInt(impl.Dot(a, b)).Cmp(want) != 0 {
				t.Errorf("Dot(%v, %v): got %d, want %s", a, b, impl.Dot(a, b), want)
			}
		}
	}
}

func TestCross(t *testing.T) {
	checkVec(t, "X and Y", impl.Cross(vec(1, 0, 0), vec(0, 1, 0)), vec(0, 0, 1))
	checkVec(t, "Y and Z", impl.Cross(vec(0, 1, 0), vec(0, 0, 1)), vec(1, 0, 0))
	checkVec(t, "Z and X", impl.Cross(vec(0, 0, 1), vec(1, 0, 0)), vec(0, 1, 0))
	checkVec(t, "ordinary", impl.Cross(vec(1, 2, 3), vec(4, 5, 7)), vec(-1, 5, -3))
	checkVec(t, "parallel", impl.Cross(vec(1, 2, 3), vec(3, 6, 9)), impl.Vec{})
	checkVec(t, "opposite", impl.Cross(vec(1, 2, 3), vec(-2, -4, -6)), impl.Vec{})
	checkVec(t, "the longest", impl.Cross(vec(1000000, 1000000, 1000000), vec(-1000000, 1000000, -1000000)),
		vec(-2000000000000, 0, 2000000000000))
}

// Promise 3, of the cross.
func TestCrossIsUpright(t *testing.T) {
	for _, a := range mixedVecs() {
		for _, b := range mixedVecs() {
			c := impl.Cross(a, b)
			if bigDot(a, c).Sign() != 0 || bigDot(b, c).Sign() != 0 {
				t.Errorf("Cross(%v, %v) is %v", a, b, c)
			}
			// Upright alone would also be the zero Vec, and any length: its
			// square and that of the Dot are the product of both squares.
			dot := bigDot(a, b)
			sum := new(big.Int).Add(bigDot(c, c), new(big.Int).Mul(dot, dot))
			if sum.Cmp(new(big.Int).Mul(bigDot(a, a), bigDot(b, b))) != 0 {
				t.Errorf("Cross(%v, %v) is %v: not of that length", a, b, c)
			}
			checkVec(t, "the other way round", impl.Cross(b, a), flip(c))
			if impl.VecRight(c) {
				checkInt(t, "Dot of a and the cross", impl.Dot(a, c), 0)
				checkInt(t, "Dot of b and the cross", impl.Dot(b, c), 0)
			}
		}
	}
}

func TestDet(t *testing.T) {
	x, y, z := vec(1, 0, 0), vec(0, 1, 0), vec(0, 0, 1)
	checkInt(t, "X, Y, Z", impl.Det(x, y, z), 1)
	checkInt(t, "Y, X, Z", impl.Det(y, x, z), -1)
	checkInt(t, "X, Y, X", impl.Det(x, y, x), 0)
	checkInt(t, "parallel ones", impl.Det(x, vec(5, 0, 0), z), 0)
	checkInt(t, "ordinary", impl.Det(vec(1, 2, 3), vec(4, 5, 7), vec(2, -1, 1)), -10)
	far := int64(1000000)
	checkInt(t, "as great as may be", impl.Det(vec(far, far, -far), vec(-far, far, far), vec(far, -far, far)), 4*far*far*far)
	checkInt(t, "as low as may be", impl.Det(vec(-far, far, far), vec(far, far, -far), vec(far, -far, far)), -4*far*far*far)
	for _, a := range mixedVecs() {
		for _, b := range mixedVecs() {
			for _, c := range mixedVecs() {
				if want := bigDet(a, b, c); big.NewInt(impl.Det(a, b, c)).Cmp(want) != 0 {
					t.Errorf("Det(%v, %v, %v): got %d, want %s", a, b, c, impl.Det(a, b, c), want)
				}
			}
		}
	}
}

func TestPrime(t *testing.T) {
	for _, c := range []struct{ v, want impl.Vec }{
		{vec(6, -9, 0), vec(2, -3, 0)},
		{vec(1, 2, 3), vec(1, 2, 3)},
		{vec(-4, -8, -12), vec(-1, -2, -3)},
		{vec(6, 10, 15), vec(6, 10, 15)},
		{vec(12, 18, 27), vec(4, 6, 9)},
		{vec(0, 0, 1), vec(0, 0, 1)},
		{vec(0, 0, -1), vec(0, 0, -1)},
		{vec(0, -7, 0), vec(0, -1, 0)},
		{vec(1000000, 0, 0), vec(1, 0, 0)},
		{vec(-1000000, 0, 0), vec(-1, 0, 0)},
		{vec(1000000, -1000000, 1000000), vec(1, -1, 1)},
		{vec(1000000, 999999, 0), vec(1000000, 999999, 0)},
		{vec(1000000, -999998, 4), vec(500000, -499999, 2)},
	} {
		checkVec(t, "Prime", impl.Prime(c.v), c.want)
	}
	for _, v := range allOf(longParts()) {
		p := impl.Prime(v)
		checkVec(t, "Prime of a prime", impl.Prime(p), p)
		if !impl.SameWay(v, p) {
			t.Errorf("Prime(%v): %v is not the same way", v, p)
		}
		shared := new(big.Int).GCD(nil, nil, big.NewInt(max(p.X, -p.X)), big.NewInt(max(p.Y, -p.Y)))
		if shared.GCD(nil, nil, shared, big.NewInt(max(p.Z, -p.Z))).Int64() != 1 {
			t.Errorf("Prime(%v): %v can be divided by %s", v, p, shared)
		}
	}
}

// Promise 3, of so many times a direction.
func TestLongerIsTheSameWay(t *testing.T) {
	for _, v := range allOf([]int64{-10, -3, -1, 0, 1, 2, 7}) {
		for _, n := range []int64{1, 2, 3, 10, 100000} {
			for _, m := range []int64{1, 4, 99999} {
				if !impl.SameWay(longer(v, n), longer(v, m)) {
					t.Errorf("%d and %d times %v are the same way", n, m, v)
				}
				if impl.SameWay(longer(v, n), longer(v, -m)) || impl.SameWay(longer(v, -n), longer(v, m)) {
					t.Errorf("%d and %d times %v are not the same way", n, -m, v)
				}
			}
			checkVec(t, "Prime of so many times", impl.Prime(longer(v, n)), impl.Prime(v))
		}
	}
}

func TestSameWay(t *testing.T) {
	for _, c := range []struct {
		what string
		a, b impl.Vec
		want bool
	}{
		{"itself", vec(1, 2, 3), vec(1, 2, 3), true},
		{"twice", vec(1, 2, 3), vec(2, 4, 6), true},
		{"of another length", vec(2, 4, 6), vec(3, 6, 9), true},
		{"opposite", vec(1, 2, 3), vec(-1, -2, -3), false},
		{"opposite, longer", vec(1, 0, 0), vec(-1000000, 0, 0), false},
		{"a right angle", vec(1, 0, 0), vec(0, 1, 0), false},
		{"another X", vec(1, 2, 3), vec(2, 2, 3), false},
		{"another Y", vec(1, 2, 3), vec(1, 3, 3), false},
		{"another Z", vec(1, 2, 3), vec(1, 2, 4), false},
		{"all but the same", vec(1000000, 999999, 999998), vec(999999, 999998, 999997), false},
		{"the longest", vec(1000000, 1000000, 1000000), vec(1, 1, 1), true},
		{"the longest, below 0", vec(-1000000, -1000000, -1000000), vec(-1, -1, -1), true},
	} {
		if got := impl.SameWay(c.a, c.b); got != c.want {
			t.Errorf("%s: got %v", c.what, got)
		}
		if got := impl.SameWay(c.b, c.a); got != c.want {
			t.Errorf("%s, the other way round: got %v", c.what, got)
		}
	}
	all := allOf([]int64{-4, -2, -1, 0, 1, 2, 3})
	for _, a := range all {
		for _, b := range all {
			if got, want := impl.SameWay(a, b), impl.Prime(a) == impl.Prime(b); got != want {
				t.Errorf("SameWay(%v, %v): got %v", a, b, got)
			}
		}
	}
}

func TestCosCmp(t *testing.T) {
	x, y := vec(1, 0, 0), vec(0, 1, 0)
	half, far := vec(1, 1, 0), vec(-1, 1, 0)
	for _, c := range []struct {
		what       string
		a, b, c, d impl.Vec
		want       int64
	}{
		{"none and none", vec(5, 0, 0), vec(7, 0, 0), vec(1, 2, 3), vec(2, 4, 6), 0},
		{"none and half a right angle", x, vec(1800, 0, 0), x, half, 1},
		{"none and a right angle", x, x, x, y, 1},
		{"none and above it", x, x, x, far, 1},
		{"none and half a turn", x, x, x, vec(-1, 0, 0), 1},
		{"half a right angle and none", x, half, x, x, -1},
		{"half a right angle and as much", vec(0, 9, 9), vec(0, 5, 0), x, half, 0},
		{"half a right angle and a right one", x, half, y, x, 1},
		{"half a right angle and three halves", x, half, x, far, 1},
		{"a right angle and none", x, y, x, x, -1},
		{"a right angle and a right one", x, y, vec(0, 0, 3), vec(4, 9, 0), 0},
		{"a right angle and above it", x, y, x, far, 1},
		{"above it and a right angle", x, far, x, y, -1},
		{"above it and below it", x, far, x, half, -1},
		{"above it and as much", vec(1800, 0, 0), vec(-1800, 0, 1800), x, far, 0},
		{"above it and a little less", x, vec(-100, 101, 0), x, far, 1},
		{"above it and a little more", x, vec(-101, 100, 0), x, far, -1},
		{"above it and half a turn", x, far, x, vec(-3, 0, 0), 1},
		{"half a turn and above it", x, vec(-1, 0, 0), x, far, -1},
		{"half a turn and half a turn", vec(1, 2, 3), vec(-2, -4, -6), x, vec(-10, 0, 0), 0},
		{"half a turn and none", x, vec(-1, 0, 0), x, x, -1},
		{"the same of small sides", vec(3, 4, 0), vec(5, 0, 0), vec(0, 5, 0), vec(4, 3, 0), 0},
		{"the same cosine of other sides", vec(300, 400, 0), vec(1, 0, 0), vec(0, 5, 0), vec(4, 3, 0), 0},
		{"the widest, all but none", vec(1800, 1800, 1800), vec(1800, 1800, 1799), x, x, -1},
		{"the widest, none", vec(1800, 1800, 1800), vec(1800, 1800, 1800), vec(10, 10, 10), vec(10, 10, 10), 0},
		{"the widest, half a turn", vec(1800, -1800, 1800), vec(-1800, 1800, -1800), vec(10, 10, 10), vec(-10, -10, -10), 0},
		{"the widest, both sides", vec(1800, -1800, 1800), vec(-1800, 1800, -1800), vec(10, 10, 10), vec(10, 10, 10), -1},
	} {
		checkInt(t, c.what, impl.CosCmp(c.a, c.b, c.c, c.d), c.want)
	}
}

// wideAndSmall are wide Vecs, and small ones, the longest among them.
func wideAndSmall() ([]impl.Vec, []impl.Vec) {
	wide := append(allOf([]int64{-1800, 0, 1800}), vec(1, 2, 3), vec(1799, -1800, 1800), vec(-900, 451, 17), vec(3, 0, 4))
	small := append(allOf([]int64{-10, 0, 10}), vec(1, 2, 3), vec(9, -10, 10), vec(-4, 2, 7), vec(3, 0, 4))
	return wide, small
}

func TestCosCmpAgainstFractions(t *testing.T) {
	wide, small := wideAndSmall()
	counts := map[int64]int{}
	for _, c := range small {
		for _, d := range small {
			second := signedCosSquare(c, d)
			for _, a := range wide {
				for _, b := range wide {
					got := impl.CosCmp(a, b, c, d)
					counts[got]++
					// Fractions are slow: every seventh is enough for all kinds.
					if (counts[-1]+counts[0]+counts[1])%7 != 0 {
						continue
					}
					if want := int64(signedCosSquare(a, b).Cmp(second)); got != want {
						t.Fatalf("CosCmp(%v, %v, %v, %v): got %d, want %d", a, b, c, d, got, want)
					}
				}
			}
		}
	}
	if counts[-1] == 0 || counts[0] == 0 || counts[1] == 0 || len(counts) != 3 {
		t.Errorf("not all kinds were tried: %v", counts)
	}
}

// Promise 3, of the cosine.
func TestCosineDoesNotAskForLengths(t *testing.T) {
	few := []impl.Vec{vec(1, 0, 0), vec(0, -1, 1), vec(1, 1, 1), vec(-1, 2, 2), vec(2, -1, 0), vec(-1, -1, -2)}
	for _, a := range few {
		for _, b := range few {
			for _, c := range few {
				for _, d := range few {
					want := impl.CosCmp(a, b, c, d)
					checkInt(t, "second opinion", want, bigCosCmp(a, b, c, d))
					for _, n := range []int64{2, 7, 900} {
						checkInt(t, "a longer", impl.CosCmp(longer(a, n), b, c, d), want)
						checkInt(t, "b longer", impl.CosCmp(a, longer(b, n), c, d), want)
						checkInt(t, "both longer", impl.CosCmp(longer(a, n), longer(b, 900), c, d), want)
					}
					for _, n := range []int64{2, 5} {
						checkInt(t, "c longer", impl.CosCmp(a, b, longer(c, n), d), want)
						checkInt(t, "d longer", impl.CosCmp(a, b, c, longer(d, n)), want)
						checkInt(t, "all longer", impl.CosCmp(longer(a, 31), longer(b, n), longer(c, n), longer(d, 3)), want)
					}
					checkInt(t, "the sides changed", impl.CosCmp(b, a, d, c), want)
					checkInt(t, "the angles changed", impl.CosCmp(c, d, a, b), -want)
				}
			}
		}
	}
}

// What is not right in any place of a call answers zero.
func TestVecRefusals(t *testing.T) {
	a, b := vec(1, 2, 3), vec(1, 2, 4)
	for _, w := range wrongVecs() {
		checkInt(t, "Dot, first", impl.Dot(w, a), 0)
		checkInt(t, "Dot, second", impl.Dot(a, w), 0)
		checkInt(t, "Dot, both", impl.Dot(w, w), 0)
		checkVec(t, "Cross, first", impl.Cross(w, a), impl.Vec{})
		checkVec(t, "Cross, second", impl.Cross(a, w), impl.Vec{})
		checkInt(t, "Det, first", impl.Det(w, a, vec(3, -1, 1)), 0)
		checkInt(t, "Det, second", impl.Det(a, w, vec(3, -1, 1)), 0)
		checkInt(t, "Det, third", impl.Det(a, vec(3, -1, 1), w), 0)
		checkVec(t, "Prime", impl.Prime(w), impl.Vec{})
		if impl.SameWay(w, w) || impl.SameWay(w, a) || impl.SameWay(a, w) {
			t.Errorf("%v has no way", w)
		}
		checkInt(t, "CosCmp, first", impl.CosCmp(w, b, a, a), 0)
		checkInt(t, "CosCmp, second", impl.CosCmp(b, w, a, a), 0)
		checkInt(t, "CosCmp, third", impl.CosCmp(a, b, w, a), 0)
		checkInt(t, "CosCmp, fourth", impl.CosCmp(a, b, a, w), 0)
	}
	if impl.SameWay(vec(1000001, 0, 0), vec(1, 0, 0)) || impl.SameWay(vec(0, 0, 1), vec(0, 0, 1000001)) {
		t.Errorf("a part of 1000001 is too far for SameWay")
	}
}

// inEachPlace are the Vecs that have n, of either sign, in one of the places.
func inEachPlace(n int64) []impl.Vec {
	return []impl.Vec{vec(n, 0, 0), vec(-n, 0, 0), vec(0, n, 0), vec(0, -n, 0), vec(0, 0, n), vec(0, 0, -n), vec(n, -n, n)}
}

func TestCosCmpLimits(t *testing.T) {
	wide, wider := inEachPlace(1800), inEachPlace(1801)
	small, less := inEachPlace(10), inEachPlace(11)
	x := vec(1, 0, 0)
	for i := range wide {
		v, w := wide[i], wider[i]
		// The angle between v and itself is less than one of half a turn.
		checkInt(t, "a and b of MaxWide", impl.CosCmp(v, v, x, flip(x)), 1)
		checkInt(t, "a of one more", impl.CosCmp(w, v, x, flip(x)), 0)
		checkInt(t, "b of one more", impl.CosCmp(v, w, x, flip(x)), 0)
		checkInt(t, "a of the greatest part", impl.CosCmp(longer(vec(v.X/1800, v.Y/1800, v.Z/1800), 1000000), v, x, flip(x)), 0)
		s, l := small[i], less[i]
		checkInt(t, "c and d of MaxSmall", impl.CosCmp(x, flip(x), s, s), -1)
		checkInt(t, "c of one more", impl.CosCmp(x, flip(x), l, s), 0)
		checkInt(t, "d of one more", impl.CosCmp(x, flip(x), s, l), 0)
		checkInt(t, "c of MaxWide", impl.CosCmp(x, flip(x), v, s), 0)
		checkInt(t, "d of MaxWide", impl.CosCmp(x, flip(x), s, v), 0)
	}
}
