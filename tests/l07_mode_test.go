package tests

import (
	"fmt"
	"math"
	"math/rand/v2"
	"slices"
	"testing"

	"loop.example/g00577/impl"
)

// trackerCase is a tracker, and what is said of it.
type trackerCase struct {
	what    string
	tracker impl.Tracker
}

// lostOne is a tracker that is lost.
func lostOne(sky []impl.Star, limit int64, frames int64) impl.Tracker {
	return impl.Tracker{Sky: sky, Limit: limit, Mode: 0, Frames: frames}
}

// trackOne is a tracker that tracks by q.
func trackOne(sky []impl.Star, limit int64, q impl.Turn, frames int64) impl.Tracker {
	return impl.Tracker{Sky: sky, Limit: limit, Mode: 1, Turn: q, Frames: frames}
}

// coastOne is a tracker that saw nothing so many times, and goes on by q.
func coastOne(sky []impl.Star, limit int64, q impl.Turn, coast int64, frames int64) impl.Tracker {
	return impl.Tracker{Sky: sky, Limit: limit, Mode: 2, Turn: q, Coast: coast, Frames: frames}
}

// ok is what is told of a tracker without a fault.
func ok(tracker impl.Tracker) impl.TrackerOut {
	return impl.TrackerOut{Tracker: tracker}
}

// faulty is what is told beside a code.
func faulty(code int64) impl.TrackerOut {
	return impl.TrackerOut{Code: code}
}

func sameTracker(a impl.Tracker, b impl.Tracker) bool {
	return slices.Equal(a.Sky, b.Sky) && a.Limit == b.Limit && a.Mode == b.Mode &&
		a.Turn == b.Turn && a.Coast == b.Coast && a.Frames == b.Frames
}

func checkTracker(t *testing.T, what string, got impl.TrackerOut, want impl.TrackerOut) {
	t.Helper()
	if got.Code != want.Code || !sameTracker(got.Tracker, want.Tracker) {
		t.Errorf("%s: got %+v, want %+v", what, got, want)
	}
}

// rightTrackers are right ones of each mode, of each limit, of lists from none
// to MaxStars, of the first frames and of the last.
func rightTrackers() []impl.Tracker {
	var out []impl.Tracker
	for _, sky := range [][]impl.Star{nil, {}, axes()[:1], impl.DeskSky(), fullSky()} {
		for limit := int64(1); limit <= 5; limit++ {
			for i, frames := range []int64{0, 1, 7, 999999, 1000000} {
				q := mixedTurns()[(i*11+int(limit)*5)%len(mixedTurns())]
				out = append(out, lostOne(sky, limit, frames), trackOne(sky, limit, q, frames))
				for coast := int64(1); coast <= limit; coast++ {
					out = append(out, coastOne(sky, limit, q, coast, frames))
				}
			}
		}
	}
	return out
}

// oneOfEach are right trackers of one list, one of each mode.
func oneOfEach(sky []impl.Star, q impl.Turn, frames int64) []trackerCase {
	return []trackerCase{
		{"lost", lostOne(sky, 2, frames)},
		{"tracks", trackOne(sky, 2, q, frames)},
		{"coasts", coastOne(sky, 2, q, 1, frames)},
		{"coasts for the last time", coastOne(sky, 2, q, 2, frames)},
	}
}

// wrongTrackers have one fault each, in each part, in each mode.
func wrongTrackers() []trackerCase {
	var out []trackerCase
	add := func(what string, tracker impl.Tracker) {
		out = append(out, trackerCase{what, tracker})
	}
	desk, q := impl.DeskSky(), turn(2, 1, 0, -1)
	for _, c := range oneOfEach(desk, q, 7) {
		for _, s := range wrongSkies() {
			w := c.tracker
			w.Sky = s.l
			add(c.what+", of a list with "+s.what, w)
		}
		for _, n := range append(farNumbers(), 0, -1, -2, 6, 7, 400) {
			w := c.tracker
			w.Limit = n
			add(fmt.Sprint(c.what, ", Limit ", n), w)
		}
		for _, n := range append(farNumbers(), -1, -2, 3, 4, 256) {
			w := c.tracker
			w.Mode = n
			add(fmt.Sprint(c.what, ", Mode ", n), w)
		}
		for _, n := range append(farNumbers(), -1, -1000000, 1000001, 1000002) {
			w := c.tracker
			w.Frames = n
			add(fmt.Sprint(c.what, ", Frames ", n), w)
		}
		for _, n := range append(farNumbers(), -1, -2, 3, 5, 6) {
			w := c.tracker
			w.Coast = n
			add(fmt.Sprint(c.what, ", Coast ", n), w)
		}
		for _, p := range wrongTurns() {
			w := c.tracker
			if w.Turn = p; w.Mode != 0 || p != (impl.Turn{}) {
				add(fmt.Sprint(c.what, ", Turn ", p), w)
			}
		}
	}
	add("lost, of a Turn", impl.Tracker{Sky: desk, Limit: 2, Turn: q})
	add("lost, of no turn at all", impl.Tracker{Sky: desk, Limit: 2, Turn: turn(1, 0, 0, 0)})
	add("lost, of a Coast", impl.Tracker{Sky: desk, Limit: 2, Coast: 1})
	add("lost, of a Turn and a Coast", impl.Tracker{Sky: desk, Limit: 2, Turn: q, Coast: 1})
	add("tracks, of a Coast", impl.Tracker{Sky: desk, Limit: 2, Mode: 1, Turn: q, Coast: 1})
	add("tracks, of a Coast as Limit", impl.Tracker{Sky: desk, Limit: 2, Mode: 1, Turn: q, Coast: 2})
	add("tracks, of no Turn", impl.Tracker{Sky: desk, Limit: 2, Mode: 1})
	add("coasts, of no Turn", impl.Tracker{Sky: desk, Limit: 2, Mode: 2, Coast: 1})
	add("coasts, of no Coast", impl.Tracker{Sky: desk, Limit: 2, Mode: 2, Turn: q})
	add("coasts, of one more than Limit", impl.Tracker{Sky: desk, Limit: 4, Mode: 2, Turn: q, Coast: 5})
	add("nothing", impl.Tracker{})
	return out
}

// plainGyro is a second opinion on Gyro, of what is right.
func plainGyro(tracker impl.Tracker, g impl.Turn) impl.Tracker {
	if tracker.Mode == 0 {
		return tracker
	}
	both := plainTurnOf(times(g, tracker.Turn))
	if both.Code != impl.OK {
		return lostOne(tracker.Sky, tracker.Limit, tracker.Frames)
	}
	tracker.Turn = both.Turn
	return tracker
}

// plainLook is a second opinion on Look, of what is right, ahead of MaxTime; it
// tries all namings there can be.
func plainLook(tracker impl.Tracker, spots []impl.Vec) impl.Tracker {
	sky, limit, frames := tracker.Sky, tracker.Limit, tracker.Frames+1
	if tracker.Mode != 0 && howMany(plainMatch(sky, tracker.Turn, spots)) >= 2 {
		return trackOne(sky, limit, tracker.Turn, frames)
	}
	if which := plainIdentify(sky, spots); which.Code == impl.OK {
		if how := plainTurnFor(sky, spots, which.Ids); how.Code == impl.OK {
			return trackOne(sky, limit, how.Turn, frames)
		}
	}
	if tracker.Mode == 0 || tracker.Coast == limit {
		return lostOne(sky, limit, frames)
	}
	return coastOne(sky, limit, tracker.Turn, tracker.Coast+1, frames)
}

func TestModeConstants(t *testing.T) {
	checkInt(t, "MdLost", impl.MdLost, 0)
	checkInt(t, "MdTrack", impl.MdTrack, 1)
	checkInt(t, "MdCoast", impl.MdCoast, 2)
	checkInt(t, "MaxCoast", impl.MaxCoast, 5)
	checkInt(t, "MaxTime", impl.MaxTime, 1000000)
}

func TestTrackerRight(t *testing.T) {
	for _, tracker := range rightTrackers() {
		if !impl.TrackerRight(tracker) {
			t.Errorf("%+v is right", tracker)
		}
	}
	for _, sky := range rightSkies() {
		for _, c := range oneOfEach(sky, turn(5, -5, 5, 4), 1000000) {
			if !impl.TrackerRight(c.tracker) {
				t.Errorf("%s, of %v: is right", c.what, sky)
			}
		}
	}
	for _, q := range rightTurns(5) {
		if !impl.TrackerRight(trackOne(nil, 1, q, 0)) || !impl.TrackerRight(coastOne(nil, 1, q, 1, 0)) || impl.TrackerRight(impl.Tracker{Limit: 1, Turn: q}) {
			t.Errorf("by %v", q)
		}
	}
	for _, c := range wrongTrackers() {
		if impl.TrackerRight(c.tracker) {
			t.Errorf("%s: is not right", c.what)
		}
	}
}

// Of each mode, each limit and each coast, and of turns and frames of all
// kinds: just those that the document lets be are right.
func TestTrackerRightOfAllParts(t *testing.T) {
	counts := map[int64]int{}
	for _, mode := range []int64{-1, 0, 1, 2, 3} {
		for limit := int64(-1); limit <= 7; limit++ {
			for coast := int64(-1); coast <= 7; coast++ {
				for _, q := range []impl.Turn{{}, turn(1, 0, 0, 0), turn(0, 0, 5, -4), turn(2, 0, 0, 0), turn(-1, 1, 0, 0), turn(6, 1, 0, 0)} {
					for _, frames := range []int64{-1, 0, 1, 999999, 1000000, 1000001} {
						want := limit >= 1 && limit <= 5 && frames >= 0 && frames <= 1000000
						isTurn := q.A == 1 || q.C == 5
						switch mode {
						case 0:
							want = want && q == impl.Turn{} && coast == 0
						case 1:
							want = want && isTurn && coast == 0
						case 2:
							want = want && isTurn && coast > 0 && coast <= limit
						default:
							want = false
						}
						if want {
							counts[mode]++
						}
						tracker := impl.Tracker{Sky: axes(), Limit: limit, Mode: mode, Turn: q, Coast: coast, Frames: frames}
						if got := impl.TrackerRight(tracker); got != want {
							t.Errorf("%+v: got %v", tracker, got)
						}
					}
				}
			}
		}
	}
	if counts[0] != 5*4 || counts[1] != 5*2*4 || counts[2] != 15*2*4 {
		t.Errorf("so many are right: %v", counts)
	}
}

func TestTrackerNew(t *testing.T) {
	for _, sky := range rightSkies() {
		for limit := int64(1); limit <= 5; limit++ {
			got := impl.TrackerNew(sky, limit)
			checkTracker(t, fmt.Sprint(sky, limit), got, ok(impl.Tracker{Sky: sky, Limit: limit}))
			if !impl.TrackerRight(got.Tracker) {
				t.Errorf("%+v is right", got.Tracker)
			}
		}
	}
	wrongLimits := append(farNumbers(), 0, -1, 6, 7, 400, 401)
	for _, limit := range wrongLimits {
		for _, sky := range [][]impl.Star{nil, axes()[:1], impl.DeskSky(), fullSky()} {
			checkTracker(t, fmt.Sprint("limit ", limit), impl.TrackerNew(sky, limit), faulty(impl.ErrForm))
		}
	}
	for _, c := range wrongSkies() {
		want := faulty(sizeCode(len(c.l)))
		for _, limit := range append(wrongLimits, 1, 2, 5) {
			checkTracker(t, fmt.Sprint(c.what, ", limit ", limit), impl.TrackerNew(c.l, limit), want)
		}
	}
	for n, code := range map[int]int64{13: impl.ErrForm, 400: impl.ErrForm, 401: impl.ErrSize, 8001: impl.ErrSize} {
		checkTracker(t, fmt.Sprint(n, " zeros"), impl.TrackerNew(make([]impl.Star, n), 1), faulty(code))
		checkTracker(t, fmt.Sprint(n, " zeros, and no limit"), impl.TrackerNew(make([]impl.Star, n), 0), faulty(code))
	}
}

func TestGyro(t *testing.T) {
	desk, quarter := impl.DeskSky(), turn(1, 0, 0, 1)
	about := turn(1, 1, 0, 0)
	for _, c := range []struct {
		what    string
		tracker impl.Tracker
		g       impl.Turn
		want    impl.Tracker
	}{
		{"lost", lostOne(desk, 2, 9), quarter, lostOne(desk, 2, 9)},
		{"lost, at MaxTime", lostOne(desk, 2, 1000000), quarter, lostOne(desk, 2, 1000000)},
		{"tracks", trackOne(desk, 2, turn(1, 0, 0, 0), 9), quarter, trackOne(desk, 2, quarter, 9)},
		{"tracks, and is not turned", trackOne(desk, 2, quarter, 9), turn(1, 0, 0, 0), trackOne(desk, 2, quarter, 9)},
		{"tracks, and is turned again", trackOne(desk, 2, quarter, 9), quarter, trackOne(desk, 2, turn(0, 0, 0, 1), 9)},
		{"tracks, and is turned back", trackOne(desk, 2, quarter, 9), turn(1, 0, 0, -1), trackOne(desk, 2, turn(1, 0, 0, 0), 9)},
		{"about Z, and then about X", trackOne(desk, 2, quarter, 9), about, trackOne(desk, 2, turn(1, 1, -1, 1), 9)},
		{"about X, and then about Z", trackOne(desk, 2, about, 9), quarter, trackOne(desk, 2, turn(1, 1, 1, 1), 9)},
		{"coasts", coastOne(desk, 3, quarter, 1, 9), about, coastOne(desk, 3, turn(1, 1, -1, 1), 1, 9)},
		{"coasts, as often as Limit", coastOne(desk, 3, quarter, 3, 9), about, coastOne(desk, 3, turn(1, 1, -1, 1), 3, 9)},
		{"tracks, too far", trackOne(desk, 2, turn(5, 4, 0, 0), 9), turn(5, 4, 0, 0), lostOne(desk, 2, 9)},
		{"coasts, too far", coastOne(desk, 2, turn(5, 4, 0, 0), 2, 9), turn(5, 4, 0, 0), lostOne(desk, 2, 9)},
		{"tracks, all but too far", trackOne(desk, 2, turn(2, 1, 0, 0), 9), turn(2, 1, 0, 0), trackOne(desk, 2, turn(3, 4, 0, 0), 9)},
		{"tracks, too far ahead of being divided", trackOne(desk, 2, turn(5, 5, 5, 4), 9), turn(5, -5, -5, -4), trackOne(desk, 2, turn(1, 0, 0, 0), 9)},
		{"tracks, at MaxTime", trackOne(nil, 5, quarter, 1000000), quarter, trackOne(nil, 5, turn(0, 0, 0, 1), 1000000)},
		{"tracks, of one star", trackOne(desk[:1], 1, quarter, 0), quarter, trackOne(desk[:1], 1, turn(0, 0, 0, 1), 0)},
		{"coasts, of MaxStars", coastOne(fullSky(), 5, quarter, 5, 0), quarter, coastOne(fullSky(), 5, turn(0, 0, 0, 1), 5, 0)},
	} {
		checkTracker(t, c.what, impl.Gyro(c.tracker, c.g), ok(c.want))
		checkTracker(t, c.what+", second opinion", ok(plainGyro(c.tracker, c.g)), ok(c.want))
	}
}

func TestGyroAgainstProducts(t *testing.T) {
	counts := map[bool]int{}
	for i, q := range rightTurns(3) {
		g := mixedTurns()[i%len(mixedTurns())]
		for _, c := range oneOfEach(axes(), q, int64(i)) {
			got := impl.Gyro(c.tracker, g)
			checkTracker(t, fmt.Sprint(c.what, " by ", q, g), got, ok(plainGyro(c.tracker, g)))
			counts[got.Tracker.Mode == c.tracker.Mode]++
			if !impl.TrackerRight(got.Tracker) {
				t.Errorf("%+v is right", got.Tracker)
			}
		}
	}
	if counts[true] < 500 || counts[false] < 500 {
		t.Errorf("not all kinds were tried: %v", counts)
	}
}

// Each mode, and looks that have none to three spots where the stars ought to
// be, others beside them, and spots that another turn or none explains.
func TestLook(t *testing.T) {
	desk, q, r := impl.DeskSky(), turn(2, 1, 0, -1), turn(1, 0, 1, 0)
	lost, by := lostOne(desk, 2, 8), func(s impl.Turn) impl.Tracker { return trackOne(desk, 2, s, 8) }
	once, twice := coastOne(desk, 2, q, 1, 8), coastOne(desk, 2, q, 2, 8)
	far := []impl.Vec{vec(7, 1, 0), vec(1, -9, 4), vec(-3, 0, 1)}
	beyond := turn(3, 1, 0, 0)
	for _, c := range []struct {
		what  string
		spots []impl.Vec
		// What becomes of one that is lost, tracks by q, coasts by q once, and
		// by q as often as its limit says.
		want [4]impl.Tracker
	}{
		{"no spots", nil, [4]impl.Tracker{lost, once, twice, lost}},
		{"an empty list", []impl.Vec{}, [4]impl.Tracker{lost, once, twice, lost}},
		{"one where it ought to be", spotsBy(desk, q, 4), [4]impl.Tracker{lost, once, twice, lost}},
		{"two", spotsBy(desk, q, 4, 1), [4]impl.Tracker{lost, by(q), by(q), by(q)}},
		{"three", spotsBy(desk, q, 4, 1, 6), [4]impl.Tracker{by(q), by(q), by(q), by(q)}},
		{"all six", spotsBy(desk, q, 6, 5, 4, 3, 2, 1), [4]impl.Tracker{by(q), by(q), by(q), by(q)}},
		{"one, and others", append(far[:3:3], spotsBy(desk, q, 2)...), [4]impl.Tracker{lost, once, twice, lost}},
		{"two, and others", append(far[:3:3], spotsBy(desk, q, 2, 5)...), [4]impl.Tracker{lost, by(q), by(q), by(q)}},
		{"three, and others", append(far[:3:3], spotsBy(desk, q, 2, 5, 1)...), [4]impl.Tracker{by(q), by(q), by(q), by(q)}},
		{"others alone", far, [4]impl.Tracker{lost, once, twice, lost}},
		{"two by another turn", spotsBy(desk, r, 1, 2), [4]impl.Tracker{lost, once, twice, lost}},
		{"three by another turn", spotsBy(desk, r, 1, 2, 3), [4]impl.Tracker{by(r), by(r), by(r), by(r)}},
		{"three by another turn, and one by its own", append(spotsBy(desk, r, 1, 2, 3), spotsBy(desk, q, 4)...), [4]impl.Tracker{by(r), by(r), by(r), by(r)}},
		{"three by another turn, and two by its own", append(spotsBy(desk, r, 1, 2, 3), spotsBy(desk, q, 4, 5)...), [4]impl.Tracker{by(r), by(q), by(q), by(q)}},
		{"four by another turn, and two by its own", append(spotsBy(desk, q, 4, 5), spotsBy(desk, r, 1, 2, 3, 4)...), [4]impl.Tracker{by(r), by(q), by(q), by(q)}},
		{"three and three, by two other turns", append(spotsBy(desk, r, 1, 2, 3), spotsBy(desk, turn(2, -1, 1, 0), 2, 3, 4)...), [4]impl.Tracker{lost, once, twice, lost}},
		{"three and three, one of them by its own", append(spotsBy(desk, r, 1, 2, 3), spotsBy(desk, q, 1, 2, 3)...), [4]impl.Tracker{lost, by(q), by(q), by(q)}},
		{"named, and by none of Turns", spotsBy(desk, beyond, 1, 2, 3), [4]impl.Tracker{lost, once, twice, lost}},
		{"all named, and by none of Turns", spotsBy(desk, beyond, 1, 2, 3, 4, 5, 6), [4]impl.Tracker{lost, once, twice, lost}},
		{"in a mirror", mirrored(spotsBy(desk, q, 1, 2, 3)), [4]impl.Tracker{lost, once, twice, lost}},
		{"longer ones", []impl.Vec{vec(0, 0, 1800), vec(900, 0, 1800), vec(0, 600, 1800)}, [4]impl.Tracker{by(turn(1, 0, 0, 0)), by(turn(1, 0, 0, 0)), by(turn(1, 0, 0, 0)), by(turn(1, 0, 0, 0))}},
	} {
		for i, from := range oneOfEach(desk, q, 7) {
			what := c.what + ", one that " + from.what
			checkTracker(t, what, impl.Look(from.tracker, c.spots), ok(c.want[i]))
			checkTracker(t, what+", second opinion", ok(plainLook(from.tracker, c.spots)), ok(c.want[i]))
		}
	}
}

// Lists that tell nothing, or too much.
func TestLookOfOtherSkies(t *testing.T) {
	q, r, beyond := turn(2, 1, 0, -1), turn(1, 0, 1, 0), turn(5, -5, 5, 4)
	ring, full, desk := edges(), fullSky(), impl.DeskSky()
	for _, c := range []struct {
		what    string
		tracker impl.Tracker
		spots   []impl.Vec
		want    impl.Tracker
	}{
		{"no star, lost", lostOne(nil, 1, 0), spotsBy(desk, q, 1, 2, 3), lostOne(nil, 1, 1)},
		{"no star, tracks", trackOne(nil, 1, q, 0), spotsBy(desk, q, 1, 2, 3), coastOne(nil, 1, q, 1, 1)},
		{"no star, coasts", coastOne(nil, 1, q, 1, 0), spotsBy(desk, q, 1, 2, 3), lostOne(nil, 1, 1)},
		{"no star, and no spots", trackOne(nil, 5, q, 0), nil, coastOne(nil, 5, q, 1, 1)},
		{"one star, tracks", trackOne(desk[:1], 1, q, 0), spotsBy(desk, q, 1, 2, 3), coastOne(desk[:1], 1, q, 1, 1)},
		{"one star, coasts", coastOne(desk[:1], 1, q, 1, 0), spotsBy(desk, q, 1, 2, 3), lostOne(desk[:1], 1, 1)},
		{"two stars, lost", lostOne(desk[:2], 1, 0), spotsBy(desk, q, 1, 2, 3), lostOne(desk[:2], 1, 1)},
		{"two stars, tracks", trackOne(desk[:2], 1, q, 0), spotsBy(desk, q, 1, 2, 3), trackOne(desk[:2], 1, q, 1)},
		{"three stars, lost", lostOne(desk[:3], 1, 0), spotsBy(desk, q, 1, 2, 3), trackOne(desk[:3], 1, q, 1)},
		{"MaxStars, lost", lostOne(full, 1, 0), spotsBy(full, q, 1, 2, 12, 500), trackOne(full, 1, q, 1)},
		{"MaxStars, coasts by another turn", coastOne(full, 1, r, 1, 0), spotsBy(full, q, 1, 2, 12, 500), trackOne(full, 1, q, 1)},
		{"can't be told, lost", lostOne(ring, 1, 0), spotsBy(ring, q, 1, 2, 3, 4, 5, 6), lostOne(ring, 1, 1)},
		{"can't be told, tracks by another turn", trackOne(ring, 1, beyond, 0), spotsBy(ring, q, 1, 2, 3, 4, 5, 6), coastOne(ring, 1, beyond, 1, 1)},
		{"can't be told, coasts by another turn", coastOne(ring, 1, beyond, 1, 0), spotsBy(ring, q, 1, 2, 3, 4, 5, 6), lostOne(ring, 1, 1)},
		{"can't be told, and is where it ought to be", trackOne(ring, 1, q, 0), spotsBy(ring, q, 1, 2, 3, 4, 5, 6), trackOne(ring, 1, q, 1)},
		{"can't be told, and is where others ought to be", trackOne(axes(), 1, r, 0), spotsBy(axes(), turn(1, 0, 0, 0), 1, 2, 3), trackOne(axes(), 1, r, 1)},
		{"tracks by none of Turns, two", trackOne(desk, 1, beyond, 0), spotsBy(desk, beyond, 6, 4), trackOne(desk, 1, beyond, 1)},
		{"coasts by none of Turns, three", coastOne(desk, 1, beyond, 1, 0), spotsBy(desk, beyond, 6, 4, 1), trackOne(desk, 1, beyond, 1)},
		{"lost by none of Turns", lostOne(desk, 1, 0), spotsBy(desk, beyond, 6, 4, 1), lostOne(desk, 1, 1)},
		{"opposite ones", coastOne(axes(), 1, q, 1, 0), spotsBy(axes(), q, 3, 9999), trackOne(axes(), 1, q, 1)},
	} {
		checkTracker(t, c.what, impl.Look(c.tracker, c.spots), ok(c.want))
	}
}

func TestLookAtTheLastFrames(t *testing.T) {
	desk, q := impl.DeskSky(), turn(2, 1, 0, -1)
	looks := [][]impl.Vec{nil, spotsBy(desk, q, 4), spotsBy(desk, q, 4, 1), spotsBy(desk, q, 4, 1, 6), spotsBy(desk, turn(1, 0, 0, 0), 1, 2, 3)}
	for _, spots := range looks {
		for i, c := range oneOfEach(desk, q, 1000000) {
			checkTracker(t, c.what+", at MaxTime", impl.Look(c.tracker, spots), faulty(impl.ErrFull))
			early := oneOfEach(desk, q, 999999)[i].tracker
			got := impl.Look(early, spots)
			checkTracker(t, c.what+", one fewer", got, ok(plainLook(early, spots)))
			checkInt(t, c.what+", one fewer", got.Tracker.Frames, 1000000)
			checkTracker(t, c.what+", behind the last", impl.Look(got.Tracker, spots), faulty(impl.ErrFull))
			checkInt(t, c.what+", at first", impl.Look(oneOfEach(desk, q, 0)[i].tracker, spots).Tracker.Frames, 1)
		}
	}
}

// someLook is spots of one look of such a tracker: by its own turn, by another
// one, or by none.
func someLook(source *rand.Rand, tracker impl.Tracker, turns []impl.Turn) []impl.Vec {
	q := tracker.Turn
	if tracker.Mode == 0 || source.IntN(3) == 0 {
		q = turns[source.IntN(len(turns))]
	}
	return someSpots(source, tracker.Sky, q, source.IntN(7))
}

// Trackers that go on for long are held against a second opinion, step by step.
func TestTrackersAgainstTrying(t *testing.T) {
	source := rand.New(rand.NewPCG(7, 1))
	turns, few := rightTurns(2), rightTurns(1)
	counts := map[[2]int64]int{}
	for i := range 150 {
		sky := someSky(source, min(6, 2+source.IntN(8)))
		tracker := impl.TrackerNew(sky, 1+int64(i%5)).Tracker
		for range 20 {
			g := few[source.IntN(len(few))]
			told := impl.Gyro(tracker, g)
			checkTracker(t, fmt.Sprintf("%+v by %v", tracker, g), told, ok(plainGyro(tracker, g)))
			if source.IntN(2) == 0 {
				tracker = told.Tracker
			}
			spots := someLook(source, tracker, turns)
			seen := impl.Look(tracker, spots)
			checkTracker(t, fmt.Sprintf("%+v looks at %v", tracker, spots), seen, ok(plainLook(tracker, spots)))
			counts[[2]int64{tracker.Mode, seen.Tracker.Mode}]++
			tracker = seen.Tracker
			if !impl.TrackerRight(tracker) {
				t.Errorf("%+v is right", tracker)
			}
		}
	}
	for _, way := range [][2]int64{{0, 0}, {0, 1}, {1, 1}, {1, 2}, {2, 2}, {2, 1}, {2, 0}} {
		if counts[way] < 20 {
			t.Errorf("not all kinds were tried: %v", counts)
		}
	}
	checkInt(t, "from lost to coasting", int64(counts[[2]int64{0, 2}]), 0)
	checkInt(t, "from tracking to lost", int64(counts[[2]int64{1, 0}]), 0)
}

// Promise 10, of who tracks: two spots at least are where the stars ought to be.
func TestWhoTracksSeesTwo(t *testing.T) {
	source := rand.New(rand.NewPCG(7, 2))
	turns := rightTurns(3)
	counts := map[int64]int{}
	for range 4000 {
		sky := someSky(source, source.IntN(13))
		q := turns[source.IntN(len(turns))]
		from := oneOfEach(sky, q, source.Int64N(1000000))[source.IntN(4)]
		spots := someLook(source, from.tracker, turns)
		got := impl.Look(from.tracker, spots)
		counts[got.Tracker.Mode]++
		fit := howMany(plainMatch(sky, got.Tracker.Turn, spots))
		if got.Code != impl.OK || got.Tracker.Mode == impl.MdTrack && fit < 2 {
			t.Errorf("%+v looks at %v: got %+v", from.tracker, spots, got)
		}
		if got.Tracker.Mode == impl.MdCoast && (fit > 1 || got.Tracker.Turn != q) {
			t.Errorf("%+v looks at %v: got %+v", from.tracker, spots, got)
		}
		if got.Tracker.Mode == impl.MdLost && got.Tracker.Turn != (impl.Turn{}) {
			t.Errorf("%+v looks at %v: got %+v", from.tracker, spots, got)
		}
	}
	if counts[impl.MdLost] < 300 || counts[impl.MdTrack] < 300 || counts[impl.MdCoast] < 300 {
		t.Errorf("not all kinds were tried: %v", counts)
	}
}

// Promise 10, of who sees nothing: it goes on as often as its limit says, and
// then is lost.
func TestWhoSeesNothingGoesOn(t *testing.T) {
	desk, q := impl.DeskSky(), turn(2, 1, 0, -1)
	for _, nothing := range [][]impl.Vec{nil, {}, spotsBy(desk, q, 5), {vec(7, 1, 0), vec(1, -9, 4)}} {
		for limit := int64(1); limit <= 5; limit++ {
			tracker := impl.Look(impl.TrackerNew(desk, limit).Tracker, spotsBy(desk, q, 1, 2, 3)).Tracker
			for n := int64(1); n <= limit; n++ {
				got := impl.Look(tracker, nothing)
				checkTracker(t, fmt.Sprint("nothing, ", n, " times of ", limit), got, ok(coastOne(desk, limit, q, n, n+1)))
				tracker = got.Tracker
				again := impl.Look(tracker, spotsBy(desk, q, 6, 1))
				checkTracker(t, "and then two", again, ok(trackOne(desk, limit, q, n+2)))
				checkTracker(t, "and then nothing: from the beginning", impl.Look(again.Tracker, nothing), ok(coastOne(desk, limit, q, 1, n+3)))
			}
			for n := range int64(3) {
				got := impl.Look(tracker, nothing)
				checkTracker(t, fmt.Sprint("nothing, ", n+1, " times above ", limit), got, ok(lostOne(desk, limit, limit+2+n)))
				tracker = got.Tracker
			}
			checkTracker(t, "lost, and then two", impl.Look(tracker, spotsBy(desk, q, 6, 1)), ok(lostOne(desk, limit, limit+5)))
			checkTracker(t, "lost, and then three", impl.Look(tracker, spotsBy(desk, q, 6, 1, 2)), ok(trackOne(desk, limit, q, limit+5)))
		}
	}
}

// Promise 11: who tracks, is turned, is told so, and sees two stars at least,
// tracks by just that turn.
func TestWhoIsToldOfATurnTracksByIt(t *testing.T) {
	all, counts := rightTurns(2), map[int64]int{}
	for i, q := range all {
		for j, g := range mixedTurns() {
			sky := [][]impl.Star{impl.DeskSky(), axes(), fullSky(), edges()}[(i+j)%4]
			want := plainTurnOf(times(g, q))
			told := impl.Gyro(trackOne(sky, 1+int64(i%5), q, int64(j)), g)
			counts[want.Code]++
			if want.Code != impl.OK {
				checkTracker(t, fmt.Sprint(q, " and then ", g), told, ok(lostOne(sky, 1+int64(i%5), int64(j))))
				continue
			}
			a, b := sky[i%len(sky)].Id, sky[(i+1+j%(len(sky)-1))%len(sky)].Id
			spots := spotsBy(sky, want.Turn, a, b)
			if j%3 > 0 {
				spots = append(spots, vec(-1800, 1799, int64(j)))
			}
			tracks := ok(trackOne(sky, 1+int64(i%5), want.Turn, int64(j)+1))
			checkTracker(t, fmt.Sprint(q, " and then ", g, ", sees ", a, b), impl.Look(told.Tracker, spots), tracks)
			// Seen once more, it is the same way.
			tracks.Tracker.Frames++
			checkTracker(t, "once more", impl.Look(impl.Look(told.Tracker, spots).Tracker, spots), tracks)
		}
	}
	if counts[impl.OK] < 1000 || counts[impl.ErrFull] < 1000 {
		t.Errorf("not all kinds were tried: %v", counts)
	}
}

// Promise 11, of who is turned and not told: two stars do not tell, three do.
func TestWhoIsNotToldOfATurn(t *testing.T) {
	desk := impl.DeskSky()
	q, r := turn(1, 0, 0, 0), turn(1, 0, 1, 0)
	tracker := trackOne(desk, 2, q, 4)
	checkTracker(t, "two", impl.Look(tracker, spotsBy(desk, r, 1, 2)), ok(coastOne(desk, 2, q, 1, 5)))
	checkTracker(t, "three", impl.Look(tracker, spotsBy(desk, r, 1, 2, 3)), ok(trackOne(desk, 2, r, 5)))
	coasts := impl.Look(tracker, nil).Tracker
	told := impl.Gyro(coasts, r)
	checkTracker(t, "told while it coasts", told, ok(coastOne(desk, 2, r, 1, 5)))
	checkTracker(t, "told while it coasts, and then two", impl.Look(told.Tracker, spotsBy(desk, r, 1, 2)), ok(trackOne(desk, 2, r, 6)))
	still := impl.Gyro(impl.Reset(tracker).Tracker, r)
	checkTracker(t, "told while it is lost", still, ok(lostOne(desk, 2, 4)))
	checkTracker(t, "told while it is lost, and then two", impl.Look(still.Tracker, spotsBy(desk, r, 1, 2)), ok(lostOne(desk, 2, 5)))
}

func TestReset(t *testing.T) {
	for _, tracker := range rightTrackers() {
		want := ok(lostOne(tracker.Sky, tracker.Limit, tracker.Frames))
		got := impl.Reset(tracker)
		checkTracker(t, fmt.Sprintf("Reset of %+v", tracker), got, want)
		checkTracker(t, "Reset again", impl.Reset(got.Tracker), want)
	}
}

func TestModeRefusals(t *testing.T) {
	desk, q := impl.DeskSky(), turn(1, 0, 0, 1)
	three := spotsBy(desk, q, 1, 2, 3)
	for _, c := range wrongTrackers() {
		checkTracker(t, "Reset, "+c.what, impl.Reset(c.tracker), faulty(impl.ErrForm))
		checkTracker(t, "Gyro, "+c.what, impl.Gyro(c.tracker, q), faulty(impl.ErrForm))
		checkTracker(t, "Look, "+c.what, impl.Look(c.tracker, three), faulty(impl.ErrForm))
		checkTracker(t, "Look at nothing, "+c.what, impl.Look(c.tracker, nil), faulty(impl.ErrForm))
	}
	for _, frames := range []int64{0, 7, 999999, 1000000} {
		for _, c := range oneOfEach(desk, q, frames) {
			for _, g := range wrongTurns() {
				checkTracker(t, fmt.Sprint("Gyro, ", c.what, " by ", g), impl.Gyro(c.tracker, g), faulty(impl.ErrForm))
			}
			for _, s := range wrongSpots() {
				want := faulty(sizeCode(len(s.spots)))
				checkTracker(t, "Look, "+c.what+" at "+s.what, impl.Look(c.tracker, s.spots), want)
			}
		}
	}
}

// Two faults at once, in each call.
func TestModeRefusalsOfTwo(t *testing.T) {
	turns, looks := wrongTurns()[:9], wrongSpots()[:9]
	for _, c := range wrongTrackers() {
		for _, g := range turns {
			checkTracker(t, fmt.Sprint("Gyro, ", c.what, " by ", g), impl.Gyro(c.tracker, g), faulty(impl.ErrForm))
		}
		for _, s := range looks {
			want := faulty(sizeCode(len(s.spots)))
			checkTracker(t, "Look, "+c.what+" at "+s.what, impl.Look(c.tracker, s.spots), want)
			late := c.tracker
			late.Frames = max(late.Frames, 1000000)
			checkTracker(t, "Look, at MaxTime, "+c.what+" at "+s.what, impl.Look(late, s.spots), want)
		}
		if late := c.tracker; late.Frames == 7 {
			late.Frames = 1000000
			checkTracker(t, "Look, at MaxTime, "+c.what, impl.Look(late, nil), faulty(impl.ErrForm))
			late.Limit = math.MinInt64
			checkTracker(t, "Look, at MaxTime, without Limit, "+c.what, impl.Look(late, nil), faulty(impl.ErrForm))
		}
	}
}

// A list of spots is handed in as such, that of a tracker's stars is not.
func TestModeSizes(t *testing.T) {
	desk, q := impl.DeskSky(), turn(1, 0, 0, 1)
	for _, n := range []int{400, 401} {
		want := faulty(sizeCode(n))
		for _, c := range oneOfEach(desk, q, 1000000) {
			checkTracker(t, c.what, impl.Look(c.tracker, manySpots(n)), want)
			checkTracker(t, c.what+", zeros", impl.Look(c.tracker, make([]impl.Vec, n)), want)
			long := c.tracker
			long.Sky = manyStars(n)
			checkTracker(t, c.what+", of as many stars", impl.Look(long, manySpots(n)), want)
			checkTracker(t, c.what+", of as many stars, at nothing", impl.Look(long, nil), faulty(impl.ErrForm))
			checkTracker(t, c.what+", of as many stars, turned", impl.Gyro(long, q), faulty(impl.ErrForm))
			checkTracker(t, c.what+", of as many stars, reset", impl.Reset(long), faulty(impl.ErrForm))
		}
		checkTracker(t, "nothing", impl.Look(impl.Tracker{}, manySpots(n)), want)
	}
}

// askMode asks all that takes a tracker.
func askMode(tracker impl.Tracker, g impl.Turn, spots []impl.Vec) string {
	out := fmt.Sprintf("%v %+v ", impl.TrackerRight(tracker), impl.TrackerNew(tracker.Sky, tracker.Limit))
	return out + fmt.Sprintf("%+v %+v %+v", impl.Gyro(tracker, g), impl.Look(tracker, spots), impl.Reset(tracker))
}

// What is handed in stays as it is, also behind its end, up to what it may
// grow to, and the same is answered again.
func TestModeArgumentsStay(t *testing.T) {
	source := rand.New(rand.NewPCG(7, 3))
	q, g := turn(2, 0, 1, -1), turn(1, 0, 0, 1)
	for range 200 {
		sky := someSky(source, source.IntN(13))
		spots := someSpots(source, sky, q, 6)
		wasSky, wasSpots := slices.Clone(sky), slices.Clone(spots)
		n, m := source.IntN(len(sky)+1), source.IntN(len(spots)+1)
		for _, c := range oneOfEach(sky[:n], q, source.Int64N(1000001)) {
			first := askMode(c.tracker, g, spots[:m])
			checkStars(t, "the sky that was handed in", sky, wasSky)
			checkSpots(t, "the spots that were handed in", spots, wasSpots)
			again := c.tracker
			again.Sky = slices.Clone(sky[:n])
			if got := askMode(again, g, slices.Clone(spots[:m])); got != first {
				t.Errorf("asked of a copy: got %s, want %s", got, first)
			}
		}
	}
}

// answersOf are all trackers that are told of one list.
func answersOf(sky []impl.Star, q impl.Turn, spots []impl.Vec) []impl.Tracker {
	out := []impl.Tracker{impl.TrackerNew(sky, 2).Tracker}
	for _, c := range oneOfEach(sky, q, 7) {
		out = append(out,
			impl.Gyro(c.tracker, turn(1, 0, 0, 0)).Tracker, impl.Gyro(c.tracker, turn(5, 5, 5, 4)).Tracker,
			impl.Look(c.tracker, nil).Tracker, impl.Look(c.tracker, spots[:2]).Tracker, impl.Look(c.tracker, spots).Tracker,
			impl.Reset(c.tracker).Tracker)
	}
	return out
}

// An answer that is changed changes neither what was handed in nor another
// answer; nor does a change of what was handed in change an answer.
func TestModeAnswersAreNewMemory(t *testing.T) {
	q := turn(2, 1, 0, -1)
	for _, length := range []int{1, 6} {
		whole := impl.DeskSky()
		sky := whole[:length]
		spots := spotsBy(impl.DeskSky(), q, 1, 2, 3)
		answers, others := answersOf(sky, q, spots), answersOf(sky, q, spots)
		for i, a := range answers {
			checkStars(t, fmt.Sprint("answer ", i), a.Sky, impl.DeskSky()[:length])
			clear(a.Sky[:cap(a.Sky)])
			checkStars(t, "the sky, behind a change of an answer", whole, impl.DeskSky())
			for j, b := range slices.Concat(answers[i+1:], others) {
				checkStars(t, fmt.Sprint("another answer, ", j), b.Sky, impl.DeskSky()[:length])
			}
		}
		clear(whole)
		clear(spots)
		for _, b := range others {
			checkStars(t, "an answer, behind a change of what was handed in", b.Sky, impl.DeskSky()[:length])
		}
	}
	// One that goes on from what was answered does not share it either.
	first := impl.TrackerNew(impl.DeskSky(), 2).Tracker
	second := impl.Look(first, spotsBy(impl.DeskSky(), q, 1, 2, 3)).Tracker
	third := impl.Gyro(second, q).Tracker
	clear(second.Sky)
	checkStars(t, "the one ahead", first.Sky, impl.DeskSky())
	checkStars(t, "the one behind", third.Sky, impl.DeskSky())
}
