package tests

import (
	"fmt"
	"math"
	"math/rand/v2"
	"slices"
	"testing"

	"loop.example/g00577/impl"
)

// spotsCase is a list of spots, and what is said of it.
type spotsCase struct {
	what  string
	spots []impl.Vec
}

// manySpots are n spots, of which none alone is a fault, and no two are the
// same way.
func manySpots(n int) []impl.Vec {
	var out []impl.Vec
	for _, s := range manyStars(n) {
		out = append(out, s.At)
	}
	return out
}

// spotsBy are the stars of these ids, in their order, as t turns them.
func spotsBy(sky []impl.Star, t impl.Turn, ids ...int64) []impl.Vec {
	var out []impl.Vec
	for _, id := range ids {
		out = append(out, turned(t, whereIs(sky, id)))
	}
	return out
}

// mirrored are the spots with the other sign of X.
func mirrored(spots []impl.Vec) []impl.Vec {
	var out []impl.Vec
	for _, v := range spots {
		out = append(out, vec(-v.X, v.Y, v.Z))
	}
	return out
}

// wrongSpot are those that no right list has.
func wrongSpot() []impl.Vec {
	out := append(wrongVecs(), inEachPlace(1801)...)
	for _, p := range []int64{1801, -1801, 1000000, -1000000} {
		out = append(out, vec(p, 1, 0), vec(0, p, 1), vec(1, 0, p), vec(p, 1800, -1800), vec(1800, p, 1800), vec(-1800, 1800, p))
	}
	return out
}

// wrongSpots are lists with one fault each, in each place.
func wrongSpots() []spotsCase {
	out := []spotsCase{
		{"one more than MaxSpots", manySpots(7)},
		{"MaxList", manySpots(400)},
		{"one more than MaxList", manySpots(401)},
		{"twice the same", []impl.Vec{vec(1, 2, 3), vec(1, 2, 3)}},
		{"two the same way", []impl.Vec{vec(1, 2, 3), vec(2, 4, 6)}},
		{"two the same way, the first one longer", []impl.Vec{vec(600, -1200, 1800), vec(1, -2, 3)}},
		{"the first and the last the same way", append(manySpots(5), longer(manySpots(1)[0], 7))},
		{"the last two the same way", append(manySpots(5), longer(manySpots(5)[4], 2))},
		{"all the same way", []impl.Vec{vec(0, 0, 1), vec(0, 0, 2), vec(0, 0, 3)}},
	}
	for _, w := range wrongSpot() {
		out = append(out,
			spotsCase{fmt.Sprint(w, " alone"), []impl.Vec{w}},
			spotsCase{fmt.Sprint(w, " first"), []impl.Vec{w, vec(0, 0, 1), vec(1, 0, 2)}},
			spotsCase{fmt.Sprint(w, " in the midst"), []impl.Vec{vec(0, 0, 1), w, vec(1, 0, 2)}},
			spotsCase{fmt.Sprint(w, " last"), append(manySpots(5), w)})
	}
	return out
}

// plainSameWay is a second opinion on SameWay, of right ones.
func plainSameWay(a impl.Vec, b impl.Vec) bool {
	return a.X*b.Y == a.Y*b.X && a.Y*b.Z == a.Z*b.Y && a.Z*b.X == a.X*b.Z && a.X*b.X+a.Y*b.Y+a.Z*b.Z > 0
}

// angles are what a naming asks of a right sky and right spots, reckoned by
// fractions and by numbers without a limit.
type angles struct {
	sky   []impl.Star
	spots []impl.Vec
	asFar [6][6][12][12]bool
	spot  [6][6][6]int
	star  [12][12][12]int
}

func anglesOf(sky []impl.Star, spots []impl.Vec) *angles {
	out := &angles{sky: sky, spots: spots}
	for i, v := range spots {
		for j, w := range spots[:i] {
			angle := signedCosSquare(w, v)
			for p, s := range sky {
				for q, r := range sky {
					out.asFar[j][i][q][p] = angle.Cmp(signedCosSquare(r.At, s.At)) == 0
				}
			}
			for k, u := range spots[:j] {
				out.spot[k][j][i] = bigDet(u, w, v).Sign()
			}
		}
	}
	for i, s := range sky {
		for j, r := range sky {
			for k, q := range sky {
				out.star[k][j][i] = bigDet(q.At, r.At, s.At).Sign()
			}
		}
	}
	return out
}

// isNaming takes the places of stars in their list, -1 for none.
func (a *angles) isNaming(places []int) bool {
	for i, p := range places {
		for j, q := range places[:i] {
			if p < 0 || q < 0 {
				continue
			}
			if p == q || !a.asFar[j][i][q][p] {
				return false
			}
			for k, r := range places[:j] {
				if r >= 0 && a.spot[k][j][i] != a.star[r][q][p] {
					return false
				}
			}
		}
	}
	return true
}

// plainNamed is a second opinion on Named, of a right sky and right spots.
func plainNamed(sky []impl.Star, spots []impl.Vec, ids []int64) bool {
	if len(ids) != len(spots) {
		return false
	}
	places := make([]int, len(ids))
	for i, id := range ids {
		places[i] = slices.IndexFunc(sky, func(s impl.Star) bool { return s.Id == id })
		if places[i] < 0 && id != 0 {
			return false
		}
	}
	return anglesOf(sky, spots).isNaming(places)
}

// idsAt are the Ids of stars at these places, 0 for none.
func idsAt(sky []impl.Star, places []int) []int64 {
	out := make([]int64, len(places))
	for i, p := range places {
		if p >= 0 {
			out[i] = sky[p].Id
		}
	}
	return out
}

// howMany is how many of the ids name a star.
func howMany(ids []int64) int64 {
	n := int64(0)
	for _, id := range ids {
		if id != 0 {
			n++
		}
	}
	return n
}

// plainNamings are all namings, by trying all lists of ids there can be.
func plainNamings(sky []impl.Star, spots []impl.Vec) [][]int64 {
	a := anglesOf(sky, spots)
	places := make([]int, len(spots))
	for i := range places {
		places[i] = -1
	}
	var out [][]int64
	for {
		if a.isNaming(places) {
			out = append(out, idsAt(sky, places))
		}
		i := 0
		for i < len(places) && places[i] == len(sky)-1 {
			places[i] = -1
			i++
		}
		if i == len(places) {
			return out
		}
		places[i]++
	}
}

// plainIdentify is a second opinion on Identify, of a right sky and right spots.
func plainIdentify(sky []impl.Star, spots []impl.Vec) impl.IdentOut {
	byCount := map[int64][][]int64{}
	most := int64(0)
	for _, ids := range plainNamings(sky, spots) {
		n := howMany(ids)
		byCount[n] = append(byCount[n], ids)
		most = max(most, n)
	}
	switch {
	case most < 3:
		return impl.IdentOut{Code: impl.ErrNone}
	case len(byCount[most]) > 1:
		return impl.IdentOut{Code: impl.ErrMany}
	default:
		return impl.IdentOut{Ids: byCount[most][0], Count: most}
	}
}

// plainMatch is a second opinion on MatchAt, of what is right.
func plainMatch(sky []impl.Star, q impl.Turn, spots []impl.Vec) []int64 {
	out := make([]int64, len(spots))
	for i, v := range spots {
		for _, s := range sky {
			if plainSameWay(turned(q, s.At), v) {
				out[i] = s.Id
			}
		}
	}
	return out
}

// plainTurnFor is a second opinion on TurnFor, of a right sky and right spots.
func plainTurnFor(sky []impl.Star, spots []impl.Vec, ids []int64) impl.TurnOut {
	if !plainNamed(sky, spots, ids) {
		return impl.TurnOut{Code: impl.ErrForm}
	}
	if howMany(ids) < 2 {
		return impl.TurnOut{Code: impl.ErrState}
	}
	for _, q := range rightTurns(2) {
		all := true
		for i, id := range ids {
			all = all && (id == 0 || plainSameWay(turned(q, whereIs(sky, id)), spots[i]))
		}
		if all {
			return impl.TurnOut{Turn: q}
		}
	}
	return impl.TurnOut{Code: impl.ErrNone}
}

func checkIdent(t *testing.T, what string, got impl.IdentOut, want impl.IdentOut) {
	t.Helper()
	if got.Code != want.Code || got.Count != want.Count || !slices.Equal(got.Ids, want.Ids) {
		t.Errorf("%s: got %+v, want %+v", what, got, want)
	}
}

func checkNamed(t *testing.T, what string, got bool, want bool) {
	t.Helper()
	if got != want {
		t.Errorf("%s: Named is %v", what, got)
	}
}

// named is what Identify tells of these ids.
func named(ids ...int64) impl.IdentOut {
	return impl.IdentOut{Ids: ids, Count: howMany(ids)}
}

// coded is what Identify tells beside a code.
func coded(code int64) impl.IdentOut {
	return impl.IdentOut{Code: code}
}

// someSky is a right list of n stars at random, that of one seed the same
// every time; few are far from each other, so that many angles are alike.
func someSky(source *rand.Rand, n int) []impl.Star {
	var out []impl.Star
	reach := int64(1 + source.IntN(3))
	for len(out) < n {
		at := vec(source.Int64N(2*reach+1)-reach, source.Int64N(2*reach+1)-reach, source.Int64N(2*reach+1)-reach)
		taken := slices.ContainsFunc(out, func(s impl.Star) bool { return s.At == at })
		if at != (impl.Vec{}) && hasNoDivisor(at) && !taken {
			out = append(out, impl.Star{Id: int64(len(out)*len(out)) + 1, At: at})
		}
	}
	return out
}

// someSpots are up to n spots, stars that are turned, and others between them;
// now and then all are in a mirror.
func someSpots(source *rand.Rand, sky []impl.Star, q impl.Turn, n int) []impl.Vec {
	var out []impl.Vec
	for range n {
		v := vec(source.Int64N(9)-4, source.Int64N(9)-4, 1+source.Int64N(4))
		if len(sky) > 0 && source.IntN(4) > 0 {
			v = turned(q, sky[source.IntN(len(sky))].At)
		}
		if !slices.ContainsFunc(out, func(w impl.Vec) bool { return plainSameWay(v, w) }) {
			out = append(out, v)
		}
	}
	if source.IntN(5) == 0 {
		return mirrored(out)
	}
	return out
}

// lopsided are four stars, three of which may change places.
func lopsided() []impl.Star {
	return []impl.Star{star(1, 1, 0, 0), star(2, 0, 1, 0), star(3, 0, 0, 1), star(4, 1, 2, 3)}
}

// edges are twelve stars of which each is as good as any other: the midsts of
// a cube's edges.
func edges() []impl.Star {
	var out []impl.Star
	for _, v := range allOf([]int64{-1, 0, 1}) {
		if v.X*v.X+v.Y*v.Y+v.Z*v.Z == 2 {
			out = append(out, impl.Star{Id: int64(len(out)) + 1, At: v})
		}
	}
	return out
}

func TestIdentConstants(t *testing.T) {
	checkInt(t, "MaxSpots", impl.MaxSpots, 6)
	checkInt(t, "edges", int64(len(edges())), 12)
	checkInt(t, "manySpots", int64(len(manySpots(401))), 401)
}

func TestSpotsRight(t *testing.T) {
	for n := range 7 {
		if !impl.SpotsRight(manySpots(n)) {
			t.Errorf("%d spots are right", n)
		}
	}
	for _, spots := range [][]impl.Vec{
		nil, {}, {vec(0, 0, 1)}, {vec(1, 2, 3), vec(-1, -2, -3)}, {vec(2, 4, 6), vec(2, 4, 7)}, {vec(10, 9, 10), vec(9, 8, 9)},
		{vec(1800, 1800, 1800), vec(1800, 1800, 1799)}, {vec(1800, -1800, 1800), vec(-1800, 1800, -1800)}, inEachPlace(1800)[:6],
	} {
		if !impl.SpotsRight(spots) {
			t.Errorf("%v are right", spots)
		}
	}
	for _, n := range []int64{1800, -1800} {
		for _, v := range []impl.Vec{vec(n, 0, 0), vec(0, n, 0), vec(0, 0, n), vec(n, 1, 2), vec(1, n, 2), vec(1, 2, n), vec(n, n, n)} {
			if !impl.SpotsRight([]impl.Vec{v}) || !impl.SpotsRight([]impl.Vec{vec(3, 1, -2), v}) {
				t.Errorf("%v is right and wide", v)
			}
		}
	}
	for _, c := range wrongSpots() {
		if impl.SpotsRight(c.spots) {
			t.Errorf("%s: is not right", c.what)
		}
	}
}

func TestNamed(t *testing.T) {
	desk, none := impl.DeskSky(), turn(1, 0, 0, 0)
	three := spotsBy(desk, none, 1, 2, 3)
	for _, c := range []struct {
		what  string
		sky   []impl.Star
		spots []impl.Vec
		ids   []int64
		want  bool
	}{
		{"nothing of nothing", nil, nil, nil, true},
		{"nothing of a sky", desk, nil, nil, true},
		{"nothing, and an empty list", desk, []impl.Vec{}, []int64{}, true},
		{"an id without a spot", desk, nil, []int64{0}, false},
		{"a spot without an id", desk, three[:1], nil, false},
		{"one fewer", desk, three, []int64{1, 2}, false},
		{"one more, of none", desk, three, []int64{1, 2, 3, 0}, false},
		{"one more, of a star", desk, three, []int64{1, 2, 3, 4}, false},
		{"none named", desk, three, []int64{0, 0, 0}, true},
		{"none named, of no star", nil, three, []int64{0, 0, 0}, true},
		{"one named", desk, three, []int64{0, 5, 0}, true},
		{"one named, and it is any star", desk, three, []int64{4, 0, 0}, true},
		{"one named, by the only star", desk[5:], three, []int64{0, 0, 6}, true},
		{"two named", desk, three, []int64{1, 0, 3}, true},
		{"two named, the other way round", desk, three, []int64{3, 0, 1}, true},
		{"three named", desk, three, []int64{1, 2, 3}, true},
		{"all named", desk, spotsBy(desk, turn(1, 2, -1, 2), 1, 2, 3, 4, 5, 6), []int64{1, 2, 3, 4, 5, 6}, true},
		{"an id below 0", desk, three, []int64{-1, 2, 3}, false},
		{"an id of no star", desk, three, []int64{1, 2, 7}, false},
		{"an id of no star alone", desk, three, []int64{0, 7, 0}, false},
		{"an id of no star, of no sky", nil, three, []int64{1, 0, 0}, false},
		{"the least id", desk, three, []int64{math.MinInt64, 0, 0}, false},
		{"the greatest id", desk, three, []int64{0, 0, math.MaxInt64}, false},
		{"an id that wraps round to a star's", desk, three, []int64{1<<32 + 1, 2, 3}, false},
		{"an id twice", desk, three, []int64{1, 1, 0}, false},
		{"an id twice, apart", desk, three, []int64{2, 0, 2}, false},
		{"another angle, the first two", desk, three, []int64{1, 3, 0}, false},
		{"another angle, the last two", desk, three, []int64{0, 1, 2}, false},
		{"another angle, the first and the last", desk, three, []int64{1, 0, 2}, false},
		{"opposite ones", axes(), []impl.Vec{vec(0, 0, 1), vec(0, 0, -1)}, []int64{1, 5}, true},
		{"opposite ones, and stars that are not", axes(), []impl.Vec{vec(0, 0, 1), vec(0, 0, -1)}, []int64{1, 2}, false},
		{"the same square of the cosine, the other sign", edges(), []impl.Vec{vec(1, 1, 0), vec(1, 0, 1)}, []int64{1, 11}, false},
		{"the same square of the cosine, and its sign", edges(), []impl.Vec{vec(1, 1, 0), vec(1, 0, 1)}, []int64{1, 2}, true},
	} {
		checkNamed(t, c.what, impl.Named(c.sky, c.spots, c.ids), c.want)
	}
}

// Of three the side is asked, which no angle tells.
func TestNamedSides(t *testing.T) {
	x, y, z := vec(1, 0, 0), vec(0, 1, 0), vec(0, 0, 1)
	flat := []impl.Star{star(1, 1, 0, 0), star(2, 1, 2, 0), star(3, 0, 1, 0), star(4, 0, 0, 1)}
	for _, c := range []struct {
		what  string
		sky   []impl.Star
		spots []impl.Vec
		ids   []int64
		want  bool
	}{
		{"above 0 and above 0", lopsided(), []impl.Vec{x, y, z}, []int64{1, 2, 3}, true},
		{"above 0 and above 0, changed round", lopsided(), []impl.Vec{x, y, z}, []int64{2, 3, 1}, true},
		{"above 0 and below 0", lopsided(), []impl.Vec{x, y, z}, []int64{2, 1, 3}, false},
		{"above 0 and below 0, the last two", lopsided(), []impl.Vec{x, y, z}, []int64{1, 3, 2}, false},
		{"below 0 and above 0", lopsided(), []impl.Vec{y, x, z}, []int64{1, 2, 3}, false},
		{"below 0 and below 0", lopsided(), []impl.Vec{y, x, z}, []int64{2, 1, 3}, true},
		{"in a mirror", lopsided(), mirrored([]impl.Vec{x, y, z}), []int64{1, 2, 3}, false},
		{"in a mirror, two of three", lopsided(), mirrored([]impl.Vec{x, y, z}), []int64{1, 0, 3}, true},
		{"a fourth, and a spot between", lopsided(), []impl.Vec{x, vec(7, 1, 1), y, vec(1, 2, 3)}, []int64{1, 0, 2, 4}, true},
		{"a fourth in a mirror", lopsided(), []impl.Vec{x, vec(7, 1, 1), y, vec(1, 2, -3)}, []int64{1, 0, 2, 4}, false},
		{"both 0", flat, []impl.Vec{x, vec(1, 2, 0), y}, []int64{1, 2, 3}, true},
		{"both 0, in another plane", flat, []impl.Vec{y, vec(0, 1, 2), z}, []int64{1, 2, 3}, true},
		{"both 0, in a mirror", flat, mirrored([]impl.Vec{x, vec(1, 2, 0), y}), []int64{1, 2, 3}, true},
		{"both 0, and a fourth", flat, []impl.Vec{x, vec(1, 2, 0), y, z}, []int64{1, 2, 3, 4}, true},
		{"both 0, and a fourth in a mirror", flat, []impl.Vec{x, vec(1, 2, 0), y, flip(z)}, []int64{1, 2, 3, 4}, false},
		{"opposite ones and another", axes(), []impl.Vec{x, flip(x), y}, []int64{3, 9999, 8}, true},
		{"the widest", axes(), []impl.Vec{vec(1800, 1800, 0), vec(-1800, 1800, 0), vec(0, 0, 1800)}, []int64{1, 2, 3}, true},
		{"the widest, below 0", axes(), []impl.Vec{vec(1800, 1800, 0), vec(-1800, 1800, 0), vec(0, 0, -1800)}, []int64{1, 2, 3}, false},
	} {
		checkNamed(t, c.what, impl.Named(c.sky, c.spots, c.ids), c.want)
	}
}

// All lists of ids of a small sky, asked one by one.
func TestNamedAgainstTrying(t *testing.T) {
	source := rand.New(rand.NewPCG(6, 1))
	counts := map[bool]int{}
	for range 60 {
		sky := someSky(source, source.IntN(5))
		spots := someSpots(source, sky, turn(1, 0, 2, -1), 3)
		known := []int64{0, 1, 2, 5, 10, -1}
		for n := range 216 {
			ids := []int64{known[n%6], known[n/6%6], known[n/36]}[:len(spots)]
			want := plainNamed(sky, spots, ids)
			counts[want]++
			checkNamed(t, fmt.Sprint(sky, spots, ids), impl.Named(sky, spots, ids), want)
		}
	}
	if counts[true] < 500 || counts[false] < 500 {
		t.Errorf("not all kinds were tried: %v", counts)
	}
}

func TestIdentify(t *testing.T) {
	desk, q := impl.DeskSky(), turn(2, 1, 0, -1)
	far := []impl.Vec{vec(7, 1, 0), vec(1, -9, 4), vec(-3, 0, 1)}
	for _, c := range []struct {
		what  string
		sky   []impl.Star
		spots []impl.Vec
		want  impl.IdentOut
	}{
		{"no spots", desk, nil, coded(impl.ErrNone)},
		{"one spot", desk, spotsBy(desk, q, 1), coded(impl.ErrNone)},
		{"two spots: the greatest names two", desk, spotsBy(desk, q, 1, 2), coded(impl.ErrNone)},
		{"two stars, and others", desk, append(far[:2:2], spotsBy(desk, q, 1, 2)...), coded(impl.ErrNone)},
		{"three spots", desk, spotsBy(desk, q, 1, 2, 3), named(1, 2, 3)},
		{"three spots, in another order", desk, spotsBy(desk, q, 5, 1, 4), named(5, 1, 4)},
		{"MaxSpots", desk, spotsBy(desk, q, 6, 5, 4, 3, 2, 1), named(6, 5, 4, 3, 2, 1)},
		{"three stars, and others ahead", desk, append(far[:3:3], spotsBy(desk, q, 2, 3, 4)...), named(0, 0, 0, 2, 3, 4)},
		{"three stars, and others behind", desk, append(spotsBy(desk, q, 2, 3, 4), far...), named(2, 3, 4, 0, 0, 0)},
		{"no star among them", desk, far, coded(impl.ErrNone)},
		{"a sky of no star", nil, spotsBy(desk, q, 1, 2, 3), coded(impl.ErrNone)},
		{"a sky of no star, and no spots", nil, nil, coded(impl.ErrNone)},
		{"a sky of one star", desk[:1], spotsBy(desk, q, 1, 2, 3), coded(impl.ErrNone)},
		{"a sky of two stars", desk[:2], spotsBy(desk, q, 1, 2, 3), coded(impl.ErrNone)},
		{"a sky of MaxStars", fullSky(), spotsBy(fullSky(), q, 1, 2, 12, 500), named(1, 2, 12, 500)},
		{"each star as good as any other", edges(), spotsBy(edges(), q, 1, 2, 3, 4, 5, 6), coded(impl.ErrMany)},
		{"in a mirror", desk, mirrored(spotsBy(desk, q, 1, 2, 3)), coded(impl.ErrNone)},
		{"in a mirror, in one plane", desk, mirrored(spotsBy(desk, turn(1, 0, 0, 0), 1, 2, 6)), named(1, 2, 6)},
		{"three that may change places", lopsided(), spotsBy(lopsided(), q, 1, 2, 3), coded(impl.ErrMany)},
		{"three that may change places, and a fourth", lopsided(), spotsBy(lopsided(), q, 1, 2, 3, 4), named(1, 2, 3, 4)},
		{"three of four, by more than one", lopsided(), append(spotsBy(lopsided(), q, 1, 2, 3), vec(1, 7, 900)), coded(impl.ErrMany)},
		{"each three of six axes", axes(), spotsBy(axes(), q, 1, 2, 3), coded(impl.ErrMany)},
		{"longer ones", desk, []impl.Vec{vec(0, 0, 1800), vec(900, 0, 1800), vec(0, 600, 1800)}, named(1, 2, 3)},
	} {
		checkIdent(t, c.what, impl.Identify(c.sky, c.spots), c.want)
	}
}

// Two groups of spots that are turned each by a turn of its own are no naming
// together.
func TestIdentifyOfTwoGroups(t *testing.T) {
	desk := impl.DeskSky()
	first := spotsBy(desk, turn(1, 0, 0, 0), 1, 2, 3)
	three := append(slices.Clone(first), spotsBy(desk, turn(2, 1, 0, -1), 2, 3, 4)...)
	checkIdent(t, "three and three", impl.Identify(desk, three), coded(impl.ErrMany))
	checkIdent(t, "three and two", impl.Identify(desk, three[:5]), named(1, 2, 3, 0, 0))
	four := append(slices.Clone(first[:2]), spotsBy(desk, turn(2, 1, 0, -1), 1, 2, 3, 4)...)
	checkIdent(t, "two and four", impl.Identify(desk, four), named(0, 0, 1, 2, 3, 4))
	checkIdent(t, "two and three", impl.Identify(desk, four[:5]), named(0, 0, 1, 2, 3))
	checkIdent(t, "two and two", impl.Identify(desk, four[:4]), coded(impl.ErrNone))
}

func TestIdentifyAgainstTrying(t *testing.T) {
	source := rand.New(rand.NewPCG(6, 2))
	turns := rightTurns(3)
	counts := map[string]int{}
	for range 1500 {
		sky := someSky(source, min(6, source.IntN(12)))
		spots := someSpots(source, sky, turns[source.IntN(len(turns))], min(6, source.IntN(14)))
		want := plainIdentify(sky, spots)
		counts[fmt.Sprint(want.Code, want.Count)]++
		checkIdent(t, fmt.Sprint(sky, spots), impl.Identify(sky, spots), want)
	}
	for _, kind := range []string{"6 0", "11 0", "0 3", "0 4", "0 5"} {
		if counts[kind] < 10 {
			t.Errorf("not all kinds were tried: %v", counts)
		}
	}
}

// All that there may be at most.
func TestIdentifyOfMost(t *testing.T) {
	q := turn(3, -1, 5, 2)
	for _, c := range []struct {
		what string
		sky  []impl.Star
		ids  []int64
	}{
		{"edges", edges(), []int64{1, 12, 2, 11, 3, 7}},
		{"fullSky", fullSky(), []int64{9999, 11, 501, 9996, 1, 12}},
	} {
		spots := spotsBy(c.sky, q, c.ids...)
		checkIdent(t, c.what, impl.Identify(c.sky, spots), plainIdentify(c.sky, spots))
	}
}

// Promise 8, of all that is told: it is a naming of three at least.
func TestWhatIsToldIsANaming(t *testing.T) {
	source := rand.New(rand.NewPCG(6, 3))
	turns := rightTurns(5)
	told := 0
	for range 4000 {
		sky := someSky(source, source.IntN(13))
		spots := someSpots(source, sky, turns[source.IntN(len(turns))], source.IntN(7))
		got := impl.Identify(sky, spots)
		if got.Code != impl.OK {
			checkIdent(t, "beside a code", got, coded(got.Code))
			if got.Code != impl.ErrNone && got.Code != impl.ErrMany {
				t.Errorf("%v %v: got %+v", sky, spots, got)
			}
			continue
		}
		told++
		if got.Count < 3 || got.Count != howMany(got.Ids) || !plainNamed(sky, spots, got.Ids) || !impl.Named(sky, spots, got.Ids) {
			t.Errorf("%v %v: got %+v", sky, spots, got)
		}
	}
	if told < 400 {
		t.Errorf("it was just told %d times", told)
	}
}

// Promise 8, of stars that are seen by a turn, and nothing else.
func TestSeenStarsAreTold(t *testing.T) {
	counts := map[int64]int{}
	for i, q := range rightTurns(3) {
		for _, sky := range [][]impl.Star{impl.DeskSky(), lopsided(), fullSky(), axes()} {
			ids := impl.Seen(sky, q, int64(i%60))
			ids = ids[:min(len(ids), 6)]
			spots := spotsBy(sky, q, ids...)
			got := impl.Identify(sky, spots)
			counts[got.Code]++
			switch {
			case len(ids) < 3:
				checkIdent(t, "fewer than three", got, coded(impl.ErrNone))
			case got.Code == impl.OK:
				checkIdent(t, fmt.Sprint(sky, " by ", q), got, named(ids...))
				checkSeenTurn(t, impl.TurnFor(sky, spots, got.Ids), q)
			default:
				checkIdent(t, fmt.Sprint(sky, " by ", q), got, coded(impl.ErrMany))
			}
		}
	}
	if counts[impl.OK] < 1000 || counts[impl.ErrMany] < 100 || counts[impl.ErrNone] < 100 {
		t.Errorf("not all kinds were tried: %v", counts)
	}
}

// checkSeenTurn asks for just that turn, if it is one of Turns: three stars
// are turned so by no other one.
func checkSeenTurn(t *testing.T, got impl.TurnOut, q impl.Turn) {
	t.Helper()
	want := impl.TurnOut{Turn: q}
	if max(q.A, q.B, q.C, q.D) > 2 || min(q.A, q.B, q.C, q.D) < -2 {
		want = impl.TurnOut{Code: impl.ErrNone}
	}
	checkTurn(t, fmt.Sprint("turned by ", q), got, want)
}

func TestMatchAt(t *testing.T) {
	desk, none := impl.DeskSky(), turn(1, 0, 0, 0)
	x, z := vec(1, 0, 0), vec(0, 0, 1)
	for _, c := range []struct {
		what  string
		sky   []impl.Star
		t     impl.Turn
		spots []impl.Vec
		want  []int64
	}{
		{"no spots", desk, none, nil, nil},
		{"no stars", nil, none, []impl.Vec{x, z}, []int64{0, 0}},
		{"no stars, no spots", nil, none, nil, nil},
		{"one", desk, none, []impl.Vec{x}, []int64{6}},
		{"the first and the last", desk, none, []impl.Vec{x, z}, []int64{6, 1}},
		{"longer ones", desk, none, []impl.Vec{longer(x, 1800), vec(0, 600, 1800), longer(z, 7)}, []int64{6, 3, 1}},
		{"the other way", desk, none, []impl.Vec{flip(x), flip(z)}, []int64{0, 0}},
		{"the other way, and this one", desk, none, []impl.Vec{flip(z), z}, []int64{0, 1}},
		{"all but the same way", desk, none, []impl.Vec{vec(1, 0, 1800), vec(900, 1, 1800), vec(1800, 0, -1)}, []int64{0, 0, 0}},
		{"some are no stars", desk, none, []impl.Vec{vec(3, 3, 1), vec(2, 1, 5), vec(0, 0, -1), vec(-1, -1, 2)}, []int64{0, 5, 0, 4}},
		{"all six", desk, turn(5, -5, 5, 4), spotsBy(desk, turn(5, -5, 5, 4), 4, 5, 6, 1, 2, 3), []int64{4, 5, 6, 1, 2, 3}},
		{"a quarter about Y: Z to X", desk, turn(1, 0, 1, 0), []impl.Vec{x, flip(z), z}, []int64{1, 6, 0}},
		{"a quarter about Y back: X to Z", desk, turn(1, 0, -1, 0), []impl.Vec{x, flip(x), z}, []int64{0, 1, 6}},
		{"a half turn", desk, turn(0, 0, 0, 1), []impl.Vec{x, flip(x), z}, []int64{0, 6, 1}},
		{"no three of them, and no naming at all", axes(), none, []impl.Vec{vec(1, 1, 0), vec(0, -5, 0)}, []int64{0, 8}},
	} {
		checkIds(t, c.what, impl.MatchAt(c.sky, c.t, c.spots), c.want)
	}
}

func TestMatchAtAgainstTurning(t *testing.T) {
	source := rand.New(rand.NewPCG(6, 4))
	counts := map[bool]int{}
	for _, q := range rightTurns(5) {
		sky := someSky(source, source.IntN(13))
		spots := someSpots(source, sky, q, 1+source.IntN(6))
		got := impl.MatchAt(sky, q, spots)
		for _, id := range got {
			counts[id != 0]++
		}
		checkIds(t, fmt.Sprint("MatchAt ", sky, q, spots), got, plainMatch(sky, q, spots))
		if back := impl.Back(q); back != q {
			checkIds(t, fmt.Sprint("MatchAt ", sky, back, spots), impl.MatchAt(sky, back, spots), plainMatch(sky, back, spots))
		}
	}
	if counts[true] < 1000 || counts[false] < 1000 {
		t.Errorf("not all kinds were tried: %v", counts)
	}
}

// Who is where a turn brings the stars is named by a naming.
func TestMatchAtIsANaming(t *testing.T) {
	source := rand.New(rand.NewPCG(6, 5))
	for _, q := range rightTurns(2) {
		sky := someSky(source, 8)
		spots := someSpots(source, sky, q, 6)
		checkNamed(t, fmt.Sprint(sky, q, spots), impl.Named(sky, spots, impl.MatchAt(sky, q, spots)), true)
	}
}

// Promise 9.
func TestTurns(t *testing.T) {
	got := impl.Turns()
	if !slices.Equal(got, rightTurns(2)) {
		t.Errorf("Turns: got %v", got)
	}
	// Of 624 lists of parts 80 can be halved; the others are two by two one turn.
	checkInt(t, "how many", int64(len(got)), 272)
	if got[0] != turn(0, 0, 0, 1) || got[1] != turn(0, 0, 1, -2) || got[len(got)-2] != turn(2, 2, 2, -1) || got[len(got)-1] != turn(2, 2, 2, 1) {
		t.Errorf("Turns: from %v to %v", got[:2], got[len(got)-2:])
	}
	for i, q := range got {
		if !impl.TurnRight(q) || !plainlyRight(q) {
			t.Errorf("%v is not right", q)
		}
		if i > 0 && slices.Compare(partsOf(got[i-1]), partsOf(q)) >= 0 {
			t.Errorf("%v stands behind %v", q, got[i-1])
		}
		if slices.Index(got, q) != i {
			t.Errorf("%v stands there twice", q)
		}
	}
}

// partsOf are the parts of a turn in a row.
func partsOf(q impl.Turn) []int64 {
	return []int64{q.A, q.B, q.C, q.D}
}

// Promise 9, of what is undone, and of no two that turn alike.
func TestTurnsAreUndone(t *testing.T) {
	all := impl.Turns()
	ways := map[[2]impl.Vec]impl.Turn{}
	for _, q := range all {
		back := impl.Back(q)
		if !slices.Contains(all, back) {
			t.Errorf("%v is undone by %v, which is none of them", q, back)
		}
		if got := impl.Compose(back, q); got != (impl.TurnOut{Turn: turn(1, 0, 0, 0)}) {
			t.Errorf("%v, and then %v: %+v", q, back, got)
		}
		way := [2]impl.Vec{impl.Prime(impl.Apply(q, vec(1, 0, 0))), impl.Prime(impl.Apply(q, vec(0, 1, 0)))}
		if other, ok := ways[way]; ok {
			t.Errorf("%v and %v turn alike", other, q)
		}
		ways[way] = q
	}
}

func TestTurnFor(t *testing.T) {
	desk, none := impl.DeskSky(), turn(1, 0, 0, 0)
	three, y, z := spotsBy(desk, none, 1, 2, 3), vec(0, 1, 0), vec(0, 0, 1)
	form, state, nothing := impl.TurnOut{Code: impl.ErrForm}, impl.TurnOut{Code: impl.ErrState}, impl.TurnOut{Code: impl.ErrNone}
	for _, c := range []struct {
		what  string
		sky   []impl.Star
		spots []impl.Vec
		ids   []int64
		want  impl.TurnOut
	}{
		{"nothing", nil, nil, nil, state},
		{"no spots", desk, nil, nil, state},
		{"none named", desk, three, []int64{0, 0, 0}, state},
		{"one named", desk, three, []int64{0, 2, 0}, state},
		{"two named", desk, three, []int64{0, 2, 3}, impl.TurnOut{Turn: none}},
		{"three named", desk, three, []int64{1, 2, 3}, impl.TurnOut{Turn: none}},
		{"one fewer", desk, three, []int64{1, 2}, form},
		{"one more", desk, three, []int64{1, 2, 3, 0}, form},
		{"no ids", desk, three, nil, form},
		{"an id below 0", desk, three, []int64{1, 2, -3}, form},
		{"an id of no star, and no other", desk, three, []int64{0, 7, 0}, form},
		{"an id twice", desk, three, []int64{1, 1, 0}, form},
		{"another angle", desk, three, []int64{2, 1, 3}, form},
		{"the other side", lopsided(), []impl.Vec{vec(1, 0, 0), y, z}, []int64{2, 1, 3}, form},
		{"the least id", desk, three, []int64{0, 0, math.MinInt64}, form},
		{"the greatest id", desk, three, []int64{math.MaxInt64, 0, 0}, form},
		{"by the first of Turns", desk, spotsBy(desk, turn(0, 0, 0, 1), 1, 2), []int64{1, 2}, impl.TurnOut{Turn: turn(0, 0, 0, 1)}},
		{"by the last of Turns", desk, spotsBy(desk, turn(2, 2, 2, 1), 4, 2, 6), []int64{4, 2, 6}, impl.TurnOut{Turn: turn(2, 2, 2, 1)}},
		{"by a turn of a greater part", desk, spotsBy(desk, turn(3, 1, 0, 0), 1, 2, 3), []int64{1, 2, 3}, nothing},
		{"by a turn of a greater part, two", desk, spotsBy(desk, turn(1, 0, 0, 3), 1, 2), []int64{1, 2}, nothing},
		{"two that change places", axes(), []impl.Vec{vec(1, 0, 0), y}, []int64{2, 1}, impl.TurnOut{Turn: turn(0, 1, 1, 0)}},
		{"changed round", lopsided(), []impl.Vec{vec(1, 0, 0), y, z}, []int64{2, 3, 1}, impl.TurnOut{Turn: turn(1, -1, -1, -1)}},
		{"in one plane, and in a mirror", desk, mirrored(spotsBy(desk, none, 1, 2, 6)), []int64{1, 2, 6}, impl.TurnOut{Turn: turn(0, 0, 0, 1)}},
		{"the first of many", axes(), []impl.Vec{z, flip(z)}, []int64{3, 9999}, impl.TurnOut{Turn: turn(0, 0, 0, 1)}},
		{"the first of many, upside down", axes(), []impl.Vec{z, flip(z)}, []int64{9999, 3}, impl.TurnOut{Turn: turn(0, 0, 1, 0)}},
		{"the first of many, X to Z", axes(), []impl.Vec{z, vec(5, 1, 1), longer(z, -9)}, []int64{1, 0, 5}, impl.TurnOut{Turn: turn(0, 1, 0, 1)}},
		{"opposite ones, and by none", axes(), []impl.Vec{vec(1800, 1799, 1), vec(-1800, -1799, -1)}, []int64{3, 9999}, nothing},
	} {
		checkTurn(t, c.what, impl.TurnFor(c.sky, c.spots, c.ids), c.want)
		checkTurn(t, c.what+", second opinion", plainTurnFor(c.sky, c.spots, c.ids), c.want)
	}
}

func TestTurnForAgainstTrying(t *testing.T) {
	source := rand.New(rand.NewPCG(6, 6))
	turns := rightTurns(3)
	counts := map[int64]int{}
	for range 1500 {
		sky := someSky(source, source.IntN(13))
		q := turns[source.IntN(len(turns))]
		spots := someSpots(source, sky, q, source.IntN(7))
		ids := plainMatch(sky, q, spots)
		for i := range ids {
			switch source.IntN(8) {
			case 0:
				ids[i] = 0
			case 1:
				ids[i] = source.Int64N(10)
			}
		}
		want := plainTurnFor(sky, spots, ids)
		counts[want.Code]++
		checkTurn(t, fmt.Sprint(sky, spots, ids), impl.TurnFor(sky, spots, ids), want)
	}
	for _, code := range []int64{impl.OK, impl.ErrForm, impl.ErrState, impl.ErrNone} {
		if counts[code] < 50 {
			t.Errorf("not all kinds were tried: %v", counts)
		}
	}
}

// Each of Turns is found by two stars that are not opposite.
func TestTurnForFindsEach(t *testing.T) {
	desk := impl.DeskSky()
	for i, q := range impl.Turns() {
		a, b := desk[i%6].Id, desk[(i+1+i%5)%6].Id
		got := impl.TurnFor(desk, append(spotsBy(desk, q, a), spotsBy(desk, q, b)...), []int64{a, b})
		checkTurn(t, fmt.Sprint("turned by ", q), got, impl.TurnOut{Turn: q})
	}
}

// askIdent asks all that takes a sky or spots.
func askIdent(sky []impl.Star, spots []impl.Vec, ids []int64) string {
	out := fmt.Sprintf("%v %v ", impl.SpotsRight(spots), impl.Named(sky, spots, ids))
	out += fmt.Sprintf("%+v %+v ", impl.Identify(sky, spots), impl.TurnFor(sky, spots, ids))
	return out + fmt.Sprint(impl.MatchAt(sky, turn(1, 0, 0, 0), spots))
}

// checkRefused asks all of a sky, spots and ids of which at least one is not
// right, and has no more than MaxList items.
func checkRefused(t *testing.T, what string, sky []impl.Star, spots []impl.Vec, ids []int64, code int64) {
	t.Helper()
	checkNamed(t, what, impl.Named(sky, spots, ids), false)
	checkIdent(t, what, impl.Identify(sky, spots), coded(code))
	checkIds(t, what, impl.MatchAt(sky, turn(1, 0, 0, 0), spots), nil)
	checkTurn(t, what, impl.TurnFor(sky, spots, ids), impl.TurnOut{Code: code})
}

// sizeCode is ErrSize, if one of the lists is too long, else ErrForm.
func sizeCode(lengths ...int) int64 {
	if slices.Max(lengths) > 400 {
		return impl.ErrSize
	}
	return impl.ErrForm
}

func TestIdentRefusals(t *testing.T) {
	desk := impl.DeskSky()
	right := spotsBy(desk, turn(1, 0, 0, 0), 1, 2, 3)
	for _, c := range wrongSkies() {
		code := sizeCode(len(c.l))
		checkRefused(t, c.what, c.l, right, []int64{1, 2, 3}, code)
		checkRefused(t, c.what+", none named", c.l, right, []int64{0, 0, 0}, code)
		checkRefused(t, c.what+", no spots", c.l, nil, nil, code)
	}
	for _, c := range wrongSpots() {
		code := sizeCode(len(c.spots))
		ids := make([]int64, len(c.spots))
		checkRefused(t, c.what+", none named", desk, c.spots, ids, code)
		checkRefused(t, c.what+", no sky", nil, c.spots, ids, code)
		if len(ids) > 2 {
			copy(ids, []int64{1, 2, 3})
			checkRefused(t, c.what, desk, c.spots, ids, code)
		}
	}
	for _, c := range wrongSkies() {
		for _, d := range wrongSpots()[:9] {
			ids := make([]int64, len(d.spots))
			checkRefused(t, c.what+", "+d.what, c.l, d.spots, ids, sizeCode(len(c.l), len(d.spots)))
		}
	}
}

// The size is looked for ahead of all else, and asks for no more than MaxList.
func TestIdentSizes(t *testing.T) {
	desk := impl.DeskSky()
	spots := spotsBy(desk, turn(1, 0, 0, 0), 1, 2, 3)
	for _, n := range []int{400, 401} {
		code := sizeCode(n)
		ids := make([]int64, n)
		copy(ids, []int64{1, 2, 3})
		want := impl.TurnOut{Code: code}
		checkTurn(t, "ids", impl.TurnFor(desk, spots, ids), want)
		checkTurn(t, "ids, and no sky", impl.TurnFor(manyStars(13), spots, ids), want)
		checkTurn(t, "ids, and no spots", impl.TurnFor(desk, manySpots(7), ids), want)
		checkTurn(t, "ids of none", impl.TurnFor(nil, nil, ids[3:n:n]), impl.TurnOut{Code: impl.ErrForm})
		checkNamed(t, "ids", impl.Named(desk, spots, ids), false)
		checkTurn(t, "a sky, and ids that are no naming", impl.TurnFor(manyStars(n), spots, []int64{-1}), want)
		checkTurn(t, "spots, and ids that are no naming", impl.TurnFor(desk, make([]impl.Vec, n), []int64{-1}), want)
		checkTurn(t, "spots, and as many ids", impl.TurnFor(desk, manySpots(n), ids), want)
		checkNamed(t, "spots, and as many ids", impl.Named(desk, manySpots(n), ids), false)
		checkIdent(t, "a sky of zeros", impl.Identify(make([]impl.Star, n), nil), coded(code))
		checkIdent(t, "spots of zeros", impl.Identify(nil, make([]impl.Vec, n)), coded(code))
		checkIds(t, "a sky of zeros", impl.MatchAt(make([]impl.Star, n), turn(1, 0, 0, 0), spots), nil)
		checkIds(t, "spots of zeros", impl.MatchAt(desk, turn(1, 0, 0, 0), make([]impl.Vec, n)), nil)
		if impl.SpotsRight(make([]impl.Vec, n)) || impl.SpotsRight(manySpots(n)) {
			t.Errorf("%d spots are not right", n)
		}
	}
}

func TestMatchAtRefusesTurns(t *testing.T) {
	spots := spotsBy(impl.DeskSky(), turn(1, 0, 0, 0), 1, 2, 3)
	for _, q := range wrongTurns() {
		checkIds(t, fmt.Sprint("by ", q), impl.MatchAt(impl.DeskSky(), q, spots), nil)
	}
}

// What is handed in stays as it is, also behind its end, up to what it may
// grow to, and the same is answered again.
func TestIdentArgumentsStay(t *testing.T) {
	source := rand.New(rand.NewPCG(6, 7))
	for range 400 {
		sky := someSky(source, source.IntN(13))
		spots := someSpots(source, sky, turn(2, 0, 1, -1), 6)
		ids := plainMatch(sky, turn(2, 0, 1, -1), spots)
		wasSky, wasSpots, wasIds := slices.Clone(sky), slices.Clone(spots), slices.Clone(ids)
		n, m := source.IntN(len(sky)+1), source.IntN(len(spots)+1)
		first := askIdent(sky[:n], spots[:m], ids[:m])
		checkStars(t, "the sky that was handed in", sky, wasSky)
		checkSpots(t, "the spots that were handed in", spots, wasSpots)
		checkIds(t, "the ids that were handed in", ids, wasIds)
		if again := askIdent(slices.Clone(sky[:n]), slices.Clone(spots[:m]), slices.Clone(ids[:m])); again != first {
			t.Errorf("asked of a copy: got %s, want %s", again, first)
		}
	}
}

// An answer that is changed changes neither what was handed in nor another
// answer.
func TestIdentAnswersAreNewMemory(t *testing.T) {
	sky, none := impl.DeskSky(), turn(1, 0, 0, 0)
	spots := append(spotsBy(sky, none, 1, 2, 3), vec(3, 3, 1))
	want := []int64{1, 2, 3, 0}
	ident, otherIdent := impl.Identify(sky, spots).Ids, impl.Identify(sky, spots).Ids
	match, otherMatch := impl.MatchAt(sky, none, spots), impl.MatchAt(sky, none, spots)
	turns, otherTurns := impl.Turns(), impl.Turns()
	clear(ident[:cap(ident)])
	clear(match[:cap(match)])
	clear(turns[:cap(turns)])
	checkStars(t, "the sky, behind changes of answers", sky, impl.DeskSky())
	checkSpots(t, "the spots, behind changes of answers", spots, append(spotsBy(sky, none, 1, 2, 3), vec(3, 3, 1)))
	checkIds(t, "another answer of Identify", otherIdent, want)
	checkIds(t, "another answer of MatchAt", otherMatch, want)
	checkIdent(t, "Identify again", impl.Identify(sky, spots), named(want...))
	checkIds(t, "MatchAt again", impl.MatchAt(sky, none, spots), want)
	if !slices.Equal(otherTurns, rightTurns(2)) || !slices.Equal(impl.Turns(), otherTurns) {
		t.Error("Turns behind a change of what it answered")
	}
	clear(sky)
	clear(spots)
	checkIds(t, "Identify, behind a change of what was handed in", otherIdent, want)
	checkIds(t, "MatchAt, behind a change of what was handed in", otherMatch, want)
}
