package tests

import (
	"fmt"
	"math"
	"strings"
	"testing"

	"loop.example/g00577/impl"
)

// turn spares the names of the parts.
func turn(a int64, b int64, c int64, d int64) impl.Turn {
	return impl.Turn{A: a, B: b, C: c, D: d}
}

// inTurn is the turn that has n in that place, and the rest's parts else.
func inTurn(rest impl.Turn, place int, n int64) impl.Turn {
	p := [4]int64{rest.A, rest.B, rest.C, rest.D}
	p[place] = n
	return turn(p[0], p[1], p[2], p[3])
}

// turnsOf are all turns of parts from -most to most, right or not.
func turnsOf(most int64) []impl.Turn {
	var out []impl.Turn
	for a := -most; a <= most; a++ {
		for b := -most; b <= most; b++ {
			for c := -most; c <= most; c++ {
				for d := -most; d <= most; d++ {
					out = append(out, turn(a, b, c, d))
				}
			}
		}
	}
	return out
}

// rightTurns are those of parts from -most to most that are right by the words
// of the document, asked for without the program.
func rightTurns(most int64) []impl.Turn {
	var out []impl.Turn
	for _, t := range turnsOf(most) {
		if plainlyRight(t) {
			out = append(out, t)
		}
	}
	return out
}

// plainlyRight is a second opinion on TurnRight, of parts that are not great.
func plainlyRight(t impl.Turn) bool {
	first := int64(0)
	for _, p := range []int64{t.A, t.B, t.C, t.D} {
		if p < -5 || p > 5 {
			return false
		}
		if first == 0 {
			first = p
		}
	}
	return first > 0 && !dividedBy(t, 2) && !dividedBy(t, 3) && !dividedBy(t, 5)
}

// dividedBy tells whether n divides all parts.
func dividedBy(t impl.Turn, n int64) bool {
	return t.A%n == 0 && t.B%n == 0 && t.C%n == 0 && t.D%n == 0
}

// plainTurnOf is a second opinion on TurnOf, by trying all that may divide.
func plainTurnOf(t impl.Turn) impl.TurnOut {
	if t == (impl.Turn{}) {
		return impl.TurnOut{Code: impl.ErrForm}
	}
	for n := int64(1000); n > 1; n-- {
		if dividedBy(t, n) {
			t = turn(t.A/n, t.B/n, t.C/n, t.D/n)
		}
	}
	if plainlyRight(t) {
		return impl.TurnOut{Turn: t}
	}
	if t = turn(-t.A, -t.B, -t.C, -t.D); plainlyRight(t) {
		return impl.TurnOut{Turn: t}
	}
	return impl.TurnOut{Code: impl.ErrFull}
}

// times is the product of two quaternions by the table of their units: a
// second opinion on what two turns are together.
func times(s impl.Turn, t impl.Turn) impl.Turn {
	unit := [4][4]int{{0, 1, 2, 3}, {1, 0, 3, 2}, {2, 3, 0, 1}, {3, 2, 1, 0}}
	sign := [4][4]int64{{1, 1, 1, 1}, {1, -1, 1, -1}, {1, -1, -1, 1}, {1, 1, -1, -1}}
	p, q := [4]int64{s.A, s.B, s.C, s.D}, [4]int64{t.A, t.B, t.C, t.D}
	var out [4]int64
	for i := range 4 {
		for j := range 4 {
			out[unit[i][j]] += sign[i][j] * p[i] * q[j]
		}
	}
	return turn(out[0], out[1], out[2], out[3])
}

// turned is a second opinion on Apply: the turn, the direction as a quaternion
// without a first part, and the turn with the other sign of all but that.
func turned(t impl.Turn, v impl.Vec) impl.Vec {
	q := times(times(t, turn(0, v.X, v.Y, v.Z)), turn(t.A, -t.B, -t.C, -t.D))
	return vec(q.B, q.C, q.D)
}

// normOf is the sum of the squares of the parts: how much longer a turn makes.
func normOf(t impl.Turn) int64 {
	return t.A*t.A + t.B*t.B + t.C*t.C + t.D*t.D
}

// mixedTurns are right ones of small and of the greatest parts, few enough to
// take two at a time.
func mixedTurns() []impl.Turn {
	out := rightTurns(1)
	return append(out, turn(5, 5, 5, 4), turn(5, -5, 5, -4), turn(4, 5, -5, -5), turn(1, 2, 3, 4), turn(5, 4, 0, 0),
		turn(5, 3, 0, 0), turn(0, 5, 0, -4), turn(0, 0, 1, 5), turn(2, -1, 0, 3), turn(3, 0, -4, 0), turn(1, 5, -5, 5))
}

// smallVecs are small ones, the longest among them.
func smallVecs() []impl.Vec {
	return []impl.Vec{vec(1, 0, 0), vec(0, 1, 0), vec(0, 0, 1), vec(0, 0, -1), vec(1, 2, 3), vec(-3, 5, 7),
		vec(10, 10, 10), vec(-10, 10, -10), vec(10, -9, 8), vec(0, -4, 3)}
}

// wideVecs are wide ones, most of them of MaxWide in a part.
func wideVecs() []impl.Vec {
	return append(append(inEachPlace(1800), smallVecs()...), vec(1800, 1800, 1800), vec(-1800, -1800, -1800), vec(1, -1799, 1800), vec(451, -17, 900))
}

// farTurnParts are parts of no turn at all, divided or not.
func farTurnParts() []int64 {
	return []int64{-1001, 1001, -1002, 2000, 1000000, 1 << 32, -1 << 32, math.MinInt64, math.MinInt64 + 1, math.MaxInt64}
}

// wrongTurns are those that are not right, for each reason, in each place.
func wrongTurns() []impl.Turn {
	out := []impl.Turn{{}, turn(2, 0, 0, 0), turn(2, -4, 0, 2), turn(3, 3, 3, 3), turn(0, 5, 5, 0), turn(4, 0, 0, 4)}
	for place := range 4 {
		for _, p := range append(farTurnParts(), 6, -6) {
			out = append(out, inTurn(turn(1, 1, 1, 1), place, p), inTurn(impl.Turn{}, place, p))
		}
		out = append(out, inTurn(impl.Turn{}, place, -1))
	}
	return append(out, turn(-1, 1, 1, 1), turn(0, -1, 1, 1), turn(0, 0, -1, 1), turn(6, 1, 0, 0), turn(1, 0, -6, 0))
}

func checkTurn(t *testing.T, what string, got impl.TurnOut, want impl.TurnOut) {
	t.Helper()
	if got != want {
		t.Errorf("%s: got %+v, want %+v", what, got, want)
	}
}

func TestTurnConstants(t *testing.T) {
	checkInt(t, "MaxPart", impl.MaxPart, 5)
}

func TestTurnRight(t *testing.T) {
	count := 0
	for _, q := range turnsOf(6) {
		got, want := impl.TurnRight(q), plainlyRight(q)
		if got != want {
			t.Errorf("TurnRight(%v): got %v", q, got)
		}
		if got {
			count++
		}
	}
	if want := len(rightTurns(5)); count != want || count == 0 {
		t.Errorf("there are %d right turns, not %d", want, count)
	}
	for _, q := range wrongTurns() {
		if impl.TurnRight(q) {
			t.Errorf("%v is not right", q)
		}
	}
}

func TestTurnRightEdges(t *testing.T) {
	for place := range 4 {
		base := inTurn(impl.Turn{}, (place+1)%4, 1)
		for _, c := range []struct {
			n    int64
			want bool
		}{{5, true}, {6, false}, {-6, false}} {
			if got := impl.TurnRight(inTurn(base, place, c.n)); got != c.want {
				t.Errorf("TurnRight(%v): got %v", inTurn(base, place, c.n), got)
			}
		}
		// Below 0 it may be behind the first one alone.
		behind := inTurn(base, place, -5)
		if got, want := impl.TurnRight(behind), place > (place+1)%4; got != want {
			t.Errorf("TurnRight(%v): got %v", behind, got)
		}
		if !impl.TurnRight(inTurn(impl.Turn{}, place, 1)) || impl.TurnRight(inTurn(impl.Turn{}, place, -1)) {
			t.Errorf("of 1 alone in place %d", place)
		}
		if impl.TurnRight(inTurn(impl.Turn{}, place, 5)) {
			t.Errorf("of 5 alone in place %d", place)
		}
	}
	for _, q := range []impl.Turn{turn(1, -5, -5, -5), turn(0, 1, -5, -5), turn(0, 0, 1, -5)} {
		if !impl.TurnRight(q) {
			t.Errorf("%v is right", q)
		}
	}
}

func TestTurnOf(t *testing.T) {
	form, full := impl.TurnOut{Code: impl.ErrForm}, impl.TurnOut{Code: impl.ErrFull}
	for _, c := range []struct {
		what       string
		a, b, c, d int64
		want       impl.TurnOut
	}{
		{"right as it is", 1, 2, -3, 5, impl.TurnOut{Turn: turn(1, 2, -3, 5)}},
		{"all 0", 0, 0, 0, 0, form},
		{"twice", 2, 0, 0, 2, impl.TurnOut{Turn: turn(1, 0, 0, 1)}},
		{"three times, with the other sign", -3, 6, -9, 0, impl.TurnOut{Turn: turn(1, -2, 3, 0)}},
		{"below 0 in the first place", -1, 5, -5, 0, impl.TurnOut{Turn: turn(1, -5, 5, 0)}},
		{"below 0 in the second place", 0, -1, 5, -5, impl.TurnOut{Turn: turn(0, 1, -5, 5)}},
		{"below 0 in the third place", 0, 0, -2, 4, impl.TurnOut{Turn: turn(0, 0, 1, -2)}},
		{"below 0 in the fourth place", 0, 0, 0, -7, impl.TurnOut{Turn: turn(0, 0, 0, 1)}},
		{"5", 5, 0, 0, 1, impl.TurnOut{Turn: turn(5, 0, 0, 1)}},
		{"6", 6, 0, 0, 1, full},
		{"-6", 1, -6, 0, 0, full},
		{"6 that is divided", 6, 0, 0, 2, impl.TurnOut{Turn: turn(3, 0, 0, 1)}},
		{"12 that is 6", 12, 0, 2, 0, full},
		{"-12 that is 6", 0, -12, 2, 0, full},
		{"1000 alone", 1000, 0, 0, 0, impl.TurnOut{Turn: turn(1, 0, 0, 0)}},
		{"-1000 alone", 0, 0, -1000, 0, impl.TurnOut{Turn: turn(0, 0, 1, 0)}},
		{"all 1000", 1000, -1000, 1000, -1000, impl.TurnOut{Turn: turn(1, -1, 1, -1)}},
		{"1000, 800, 600 and 200", -1000, 800, -600, 200, impl.TurnOut{Turn: turn(5, -4, 3, -1)}},
		{"1000 and 999", 1000, 999, 0, 0, full},
		{"1001 alone", 1001, 0, 0, 0, form},
		{"all 1001", 1001, 1001, 1001, 1001, form},
		{"all -1001", -1001, -1001, -1001, -1001, form},
		{"all the least", math.MinInt64, math.MinInt64, math.MinInt64, math.MinInt64, form},
		{"all the greatest", math.MaxInt64, math.MaxInt64, math.MaxInt64, math.MaxInt64, form},
	} {
		checkTurn(t, c.what, impl.TurnOf(c.a, c.b, c.c, c.d), c.want)
	}
	for place := range 4 {
		for _, n := range []int64{-1000, -999, 1000, 999} {
			q := inTurn(impl.Turn{}, place, n)
			checkTurn(t, "alone", impl.TurnOf(q.A, q.B, q.C, q.D), impl.TurnOut{Turn: inTurn(impl.Turn{}, place, 1)})
			q = inTurn(turn(1, 1, 1, 1), place, n)
			checkTurn(t, "with 1", impl.TurnOf(q.A, q.B, q.C, q.D), full)
		}
		for _, n := range farTurnParts() {
			for _, rest := range []impl.Turn{{}, turn(1, 1, 1, 1), turn(1000, 1000, 1000, 1000)} {
				q := inTurn(rest, place, n)
				checkTurn(t, "too far", impl.TurnOf(q.A, q.B, q.C, q.D), form)
			}
		}
	}
}

func TestTurnOfAgainstTrying(t *testing.T) {
	for _, q := range turnsOf(6) {
		for _, n := range []int64{1, 166} {
			want := plainTurnOf(longerTurn(q, n))
			if got := impl.TurnOf(q.A*n, q.B*n, q.C*n, q.D*n); got != want {
				t.Errorf("TurnOf %d times %v: got %+v, want %+v", n, q, got, want)
			}
		}
	}
	for _, q := range rightTurns(5) {
		for _, n := range []int64{1, -1, 2, -3, 200, -200} {
			got := impl.TurnOf(q.A*n, q.B*n, q.C*n, q.D*n)
			checkTurn(t, "so many times a right one", got, impl.TurnOut{Turn: q})
		}
	}
}

// longerTurn is t with all parts so many times.
func longerTurn(t impl.Turn, n int64) impl.Turn {
	return turn(t.A*n, t.B*n, t.C*n, t.D*n)
}

func TestApply(t *testing.T) {
	for _, c := range []struct {
		what string
		t    impl.Turn
		v    impl.Vec
		want impl.Vec
	}{
		{"none", turn(1, 0, 0, 0), vec(1, -2, 3), vec(1, -2, 3)},
		{"a quarter about X: Y to Z", turn(1, 1, 0, 0), vec(0, 1, 0), vec(0, 0, 2)},
		{"a quarter about Y: Z to X", turn(1, 0, 1, 0), vec(0, 0, 1), vec(2, 0, 0)},
		{"a quarter about Z: X to Y", turn(1, 0, 0, 1), vec(1, 0, 0), vec(0, 2, 0)},
		{"a quarter back about Z: Y to X", turn(1, 0, 0, -1), vec(0, 1, 0), vec(2, 0, 0)},
		{"half about X", turn(0, 1, 0, 0), vec(1, 2, 3), vec(1, -2, -3)},
		{"half about Y", turn(0, 0, 1, 0), vec(1, 2, 3), vec(-1, 2, -3)},
		{"half about Z", turn(0, 0, 0, 1), vec(1, 2, 3), vec(-1, -2, 3)},
		{"a third about all: X to Y, Y to Z, Z to X", turn(1, 1, 1, 1), vec(1, 2, 3), vec(12, 4, 8)},
		{"about its own axis", turn(4, 1, 2, -3), vec(1, 2, -3), vec(30, 60, -90)},
		{"of MaxWide", turn(5, 0, 0, 1), vec(1800, -1800, 1800), vec(61200, -25200, 46800)},
	} {
		checkVec(t, c.what, impl.Apply(c.t, c.v), c.want)
	}
	for _, q := range rightTurns(5) {
		for _, v := range []impl.Vec{vec(1, 0, 0), vec(0, 1, 0), vec(0, 0, 1), vec(1800, -1799, 1798)} {
			checkVec(t, "all turns", impl.Apply(q, v), turned(q, v))
		}
	}
	for _, q := range mixedTurns() {
		for _, v := range wideVecs() {
			checkVec(t, "all ways", impl.Apply(q, v), turned(q, v))
		}
	}
}

func TestApplyRefusals(t *testing.T) {
	for _, q := range wrongTurns() {
		checkVec(t, "a turn that is not right", impl.Apply(q, vec(1, 2, 3)), impl.Vec{})
	}
	q := turn(1, 0, 0, 0)
	for _, v := range wrongVecs() {
		checkVec(t, "a Vec that is not right", impl.Apply(q, v), impl.Vec{})
	}
	for _, v := range inEachPlace(1800) {
		checkVec(t, "of MaxWide", impl.Apply(q, v), v)
	}
	for _, v := range append(inEachPlace(1801), inEachPlace(1000000)...) {
		checkVec(t, "of more than MaxWide", impl.Apply(q, v), impl.Vec{})
	}
	checkVec(t, "of one more in X", impl.Apply(q, vec(1801, 1800, 1800)), impl.Vec{})
	checkVec(t, "of one more in Y", impl.Apply(q, vec(1800, -1801, 1800)), impl.Vec{})
	checkVec(t, "of one more in Z", impl.Apply(q, vec(1800, 1800, 1801)), impl.Vec{})
	checkVec(t, "of neither", impl.Apply(impl.Turn{}, impl.Vec{}), impl.Vec{})
}

// Promise 4, of the angles.
func TestTurnsKeepAngles(t *testing.T) {
	few := smallVecs()[2:7]
	for _, q := range rightTurns(5) {
		grows := normOf(q)
		for i, a := range few {
			b, c := few[(i+1)%len(few)], few[(i+2)%len(few)]
			ta, tb, tc := impl.Apply(q, a), impl.Apply(q, b), impl.Apply(q, c)
			checkInt(t, "CosCmp of what was turned", impl.CosCmp(ta, tb, a, b), 0)
			checkInt(t, "Dot of what was turned", impl.Dot(ta, tb), grows*grows*impl.Dot(a, b))
			checkInt(t, "length of what was turned", impl.Dot(ta, ta), grows*grows*impl.Dot(a, a))
			// A mirror would keep the angles too, and change this sign.
			checkInt(t, "Det of what was turned", impl.Det(ta, tb, tc), grows*grows*grows*impl.Det(a, b, c))
		}
	}
	for _, q := range mixedTurns() {
		for _, a := range wideVecs() {
			for _, b := range wideVecs() {
				ta, tb := impl.Apply(q, a), impl.Apply(q, b)
				checkInt(t, "Dot of wide ones", impl.Dot(ta, tb), normOf(q)*normOf(q)*impl.Dot(a, b))
			}
		}
	}
}

func TestCompose(t *testing.T) {
	for _, c := range []struct {
		what string
		s, t impl.Turn
		want impl.TurnOut
	}{
		{"none and none", turn(1, 0, 0, 0), turn(1, 0, 0, 0), impl.TurnOut{Turn: turn(1, 0, 0, 0)}},
		{"none behind one", turn(1, 0, 0, 0), turn(1, 2, 3, 4), impl.TurnOut{Turn: turn(1, 2, 3, 4)}},
		{"one behind none", turn(1, 2, 3, 4), turn(1, 0, 0, 0), impl.TurnOut{Turn: turn(1, 2, 3, 4)}},
		{"two quarters", turn(1, 0, 0, 1), turn(1, 0, 0, 1), impl.TurnOut{Turn: turn(0, 0, 0, 1)}},
		{"half behind a quarter", turn(0, 0, 0, 1), turn(1, 0, 0, 1), impl.TurnOut{Turn: turn(1, 0, 0, -1)}},
		{"two halves", turn(0, 1, 0, 0), turn(0, 1, 0, 0), impl.TurnOut{Turn: turn(1, 0, 0, 0)}},
		{"X behind Y", turn(0, 1, 0, 0), turn(0, 0, 1, 0), impl.TurnOut{Turn: turn(0, 0, 0, 1)}},
		{"a quarter about X behind one about Y", turn(1, 1, 0, 0), turn(1, 0, 1, 0), impl.TurnOut{Turn: turn(1, 1, 1, 1)}},
		{"a quarter about Y behind one about X", turn(1, 0, 1, 0), turn(1, 1, 0, 0), impl.TurnOut{Turn: turn(1, 1, 1, -1)}},
		{"of other axes", turn(2, 1, 0, 0), turn(2, 0, 0, 1), impl.TurnOut{Turn: turn(4, 2, -1, 2)}},
		{"just as great as may be", turn(1, 1, 0, 0), turn(5, 0, 1, 0), impl.TurnOut{Turn: turn(5, 5, 1, 1)}},
		{"one too great", turn(1, 1, 0, 0), turn(5, 1, 1, 0), impl.TurnOut{Code: impl.ErrFull}},
		{"divided by 5", turn(3, 1, 0, 0), turn(2, 1, 0, 0), impl.TurnOut{Turn: turn(1, 1, 0, 0)}},
		{"too great", turn(5, 4, 0, 0), turn(5, 3, 0, 0), impl.TurnOut{Code: impl.ErrFull}},
		{"all too great", turn(5, 5, 5, 4), turn(5, 5, 5, 4), impl.TurnOut{Code: impl.ErrFull}},
	} {
		checkTurn(t, c.what, impl.Compose(c.s, c.t), c.want)
	}
	codes := map[int64]int{}
	check := func(s impl.Turn, q impl.Turn) {
		got := impl.Compose(s, q)
		codes[got.Code]++
		if want := plainTurnOf(times(s, q)); got != want {
			t.Errorf("Compose(%v, %v): got %+v, want %+v", s, q, got, want)
		}
	}
	all := rightTurns(5)
	for i, s := range mixedTurns() {
		for _, q := range mixedTurns() {
			check(s, q)
		}
		for j := i; j < len(all); j += 101 {
			check(s, all[j])
			check(all[j], s)
		}
	}
	if codes[impl.OK] == 0 || codes[impl.ErrFull] == 0 || len(codes) != 2 {
		t.Errorf("not all kinds were tried: %v", codes)
	}
}

func TestComposeRefusals(t *testing.T) {
	form := impl.TurnOut{Code: impl.ErrForm}
	for _, q := range wrongTurns() {
		checkTurn(t, "first", impl.Compose(q, turn(1, 0, 0, 0)), form)
		checkTurn(t, "second", impl.Compose(turn(1, 0, 0, 0), q), form)
		checkTurn(t, "both", impl.Compose(q, q), form)
		// ErrForm is named ahead of what the product would tell.
		checkTurn(t, "first, too great", impl.Compose(q, turn(5, 5, 5, 4)), form)
		checkTurn(t, "second, too great", impl.Compose(turn(5, 5, 5, 4), q), form)
	}
}

// Promise 4, of a turn and then another one.
func TestOneTurnAndThenAnother(t *testing.T) {
	turns := rightTurns(2)
	if len(turns) != 272 {
		t.Errorf("got %d turns of parts from -2 to 2", len(turns))
	}
	tried := 0
	for i, s := range turns {
		// Every third is enough, with each s beginning at another one.
		for j := i % 3; j < len(turns); j += 3 {
			q := turns[j]
			both := impl.Compose(s, q)
			if both.Code != impl.OK {
				continue
			}
			tried++
			if !impl.TurnRight(both.Turn) {
				t.Errorf("Compose(%v, %v): %v is not right", s, q, both.Turn)
			}
			for _, v := range []impl.Vec{vec(1, 2, 3), vec(0, 0, 1), vec(10, -9, 10)} {
				one, two := impl.Apply(both.Turn, v), impl.Apply(s, impl.Apply(q, v))
				if !impl.SameWay(one, two) {
					t.Errorf("%v by %v and then %v is %v, by both together %v", v, q, s, two, one)
				}
			}
		}
	}
	if tried < 1000 {
		t.Errorf("only %d were tried", tried)
	}
}

// Promise 4, of a turn back.
func TestTurnsBackUndo(t *testing.T) {
	none := impl.TurnOut{Turn: turn(1, 0, 0, 0)}
	for _, q := range rightTurns(5) {
		back := impl.Back(q)
		if !impl.TurnRight(back) {
			t.Errorf("Back(%v): %v is not right", q, back)
		}
		checkTurn(t, "back behind it", impl.Compose(back, q), none)
		checkTurn(t, "it behind back", impl.Compose(q, back), none)
		checkTurn(t, "twice back", impl.TurnOut{Turn: impl.Back(back)}, impl.TurnOut{Turn: q})
		for _, v := range []impl.Vec{vec(1, 2, 3), vec(-10, 10, 9), vec(0, 0, -1)} {
			if got := impl.Apply(back, impl.Apply(q, v)); !impl.SameWay(got, v) {
				t.Errorf("%v by %v and back is %v", v, q, got)
			}
		}
	}
}

func TestBack(t *testing.T) {
	for _, c := range []struct{ t, want impl.Turn }{
		{turn(1, 0, 0, 0), turn(1, 0, 0, 0)},
		{turn(1, 2, -3, 4), turn(1, -2, 3, -4)},
		{turn(5, 5, 5, -4), turn(5, -5, -5, 4)},
		{turn(0, 1, -2, 3), turn(0, 1, -2, 3)},
		{turn(0, 0, 1, -5), turn(0, 0, 1, -5)},
		{turn(0, 0, 0, 1), turn(0, 0, 0, 1)},
	} {
		if got := impl.Back(c.t); got != c.want {
			t.Errorf("Back(%v): got %v, want %v", c.t, got, c.want)
		}
	}
	for _, q := range wrongTurns() {
		if got := impl.Back(q); got != (impl.Turn{}) {
			t.Errorf("Back(%v): got %v", q, got)
		}
	}
}

func TestTurnText(t *testing.T) {
	for _, c := range []struct {
		t    impl.Turn
		want string
	}{
		{turn(1, 0, 0, 0), "1,0,0,0"},
		{turn(0, 0, 0, 1), "0,0,0,1"},
		{turn(1, 0, 0, -1), "1,0,0,-1"},
		{turn(1, -2, 3, -4), "1,-2,3,-4"},
		{turn(5, -5, -5, -4), "5,-5,-5,-4"},
	} {
		if got := impl.TurnText(c.t); got != c.want {
			t.Errorf("TurnText(%v): got %q, want %q", c.t, got, c.want)
		}
	}
	for _, q := range wrongTurns() {
		if got := impl.TurnText(q); got != "" {
			t.Errorf("TurnText(%v): got %q", q, got)
		}
	}
	for _, q := range rightTurns(5) {
		text := impl.TurnText(q)
		if want := fmt.Sprintf("%d,%d,%d,%d", q.A, q.B, q.C, q.D); text != want {
			t.Errorf("TurnText(%v): got %q", q, text)
		}
		checkTurn(t, "read again", impl.TurnRead(text), impl.TurnOut{Turn: q})
	}
}

func TestTurnReadFaults(t *testing.T) {
	wrap := "18446744073709551617" // 1, if the digits wrap round
	for _, text := range []string{
		"", " ", ",", ",,,", "1", "1,0,0", "1,0,0,", ",0,0,1", "1,,0,0", "0,,,1", "1,0,0,0,", ",1,0,0,0", "1,0,0,0,0", "1,0,0,0,0,0",
		"+1,0,0,0", "1,+1,0,0", "--1,0,0,0", "1,--1,0,0", "1,-,0,0", "1,-1-,0,0", "1,1-,0,0", "1,0,0,0-", "-", "-,-,-,-", "1,0,0,-",
		"01,0,0,0", "1,01,0,0", "1,00,0,0", "1,0,0,00", "1,0,0,05", "1,-01,0,0", "1,0-1,0,0",
		"1,-0,0,0", "-0,1,0,0", "1,0,0,-0", "0,0,-0,1", "0,0,0,-0", "-1,-0,0,0",
		" 1,0,0,0", "1,0,0,0 ", "1, 0,0,0", "1 ,0,0,0", "1 0 0 0", "1,0,0,0\n", "\t1,0,0,0", "1,0,0,0\r\n", "1,0,0,0\x00",
		"\xff", "1,0,0,\xff", "1,0,0,0\xff", "\xc21,0,0,0", "1,0\x80,0,0", "1,0,0,0\xe2\x82", "\xef\xbf\xbd", "1,0,0,0\xef\xbf\xbd",
		"\xd9\xa1,0,0,0", "\xef\xbc\x91,0,0,0", "\xe2\x88\x921,0,0,0", "1\xef\xbc\x8c0,0,0", "\xb1,0,0,0",
		"0,0,0,0", "2,0,0,0", "2,-4,0,2", "5,0,5,0", "3,3,3,3", "-1,0,0,0", "0,-1,0,0", "0,0,-1,0", "0,0,0,-1", "-2,0,0,0", "-1,-1,-1,-1",
		"6,1,0,0", "1,6,0,0", "1,0,-6,0", "1,0,0,6", "1,0,0,10", "1,0,0,15", "1000,0,0,1", "1,0,0,1001",
		wrap + ",0,0,0", "1," + wrap + ",0,0", "1,0,0,-" + wrap, "9223372036854775807,1,0,0", "-9223372036854775808,1,0,0", "1,-9223372036854775808,0,0",
		"1.0,0,0,0", "1;0;0;0", "1e0,0,0,0", "0x1,0,0,0", "a,b,c,d", "1,0,0,a", "one", "(1,0,0,0)", "1/0,0,0", "1,0,0,:", "1_0,0,0,0",
		strings.Repeat("1", 8000), strings.Repeat(",", 8000), strings.Repeat("-", 8000), strings.Repeat("0", 7993) + "1,0,0,0", "1,0,0,0" + strings.Repeat(" ", 7993),
	} {
		checkTurn(t, fmt.Sprintf("TurnRead(%.40q)", text), impl.TurnRead(text), impl.TurnOut{Code: impl.ErrSyntax})
	}
	size := impl.TurnOut{Code: impl.ErrSize}
	checkTurn(t, "more than MaxBytes", impl.TurnRead(strings.Repeat("1", 8001)), size)
	checkTurn(t, "a turn's text in more than MaxBytes", impl.TurnRead("1,0,0,0"+strings.Repeat(" ", 7994)), size)
	checkTurn(t, "more than MaxBytes, no text", impl.TurnRead(strings.Repeat("\xff", 8001)), size)
}

// Of all short texts of these bytes only those of right turns are read.
func TestTurnReadShortTexts(t *testing.T) {
	want := map[string]impl.Turn{}
	for _, q := range rightTurns(5) {
		want[fmt.Sprintf("%d,%d,%d,%d", q.A, q.B, q.C, q.D)] = q
	}
	read := 0
	texts := []string{""}
	for range 8 {
		var next []string
		for _, text := range texts {
			for _, b := range []string{"0", "1", "5", "-", ","} {
				next = append(next, text+b)
			}
		}
		texts = next
		for _, text := range texts {
			answer := impl.TurnOut{Code: impl.ErrSyntax}
			if q, there := want[text]; there {
				read++
				answer = impl.TurnOut{Turn: q}
			}
			if got := impl.TurnRead(text); got != answer {
				t.Fatalf("TurnRead(%q): got %+v, want %+v", text, got, answer)
			}
		}
	}
	if read == 0 {
		t.Error("no text was a turn's")
	}
}

// One byte changed in a right text makes another right one's, or none.
func TestTurnReadOtherBytes(t *testing.T) {
	for _, text := range []string{"1,0,0,0", "5,-4,3,-2", "0,1,-5,5"} {
		for i := range text {
			for b := range 256 {
				other := text[:i] + string([]byte{byte(b)}) + text[i+1:]
				got := impl.TurnRead(other)
				if got.Code == impl.OK && impl.TurnText(got.Turn) != other {
					t.Errorf("%q is read as %v", other, got.Turn)
				} else if got.Code != impl.OK {
					checkTurn(t, fmt.Sprintf("%q", other), got, impl.TurnOut{Code: impl.ErrSyntax})
				}
			}
		}
	}
}
