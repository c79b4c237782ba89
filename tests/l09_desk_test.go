package tests

import (
	"fmt"
	"math/rand/v2"
	"regexp"
	"slices"
	"strings"
	"testing"

	"loop.example/g00577/impl"
)

// deskForm is what the document says of a line without its line feed.
var deskForm = regexp.MustCompile(`^(?:(?:move|drift) [^ \n]+|(?:see|ids) (?:0|[1-9][0-9]{0,8})|blind|reset|state)$`)

// opinions is a second opinion on desks; it spares trying all namings of the
// same spots again.
type opinions struct {
	turns map[string]impl.Turn
	looks map[string]impl.Tracker
	which map[string]impl.IdentOut
}

func newOpinions() opinions {
	out := opinions{map[string]impl.Turn{}, map[string]impl.Tracker{}, map[string]impl.IdentOut{}}
	for _, q := range rightTurns(5) {
		out.turns[turnWord(q)] = q
	}
	return out
}

// plainSet is a desk at work in a second opinion.
type plainSet struct {
	camera  impl.Turn
	tracker impl.Tracker
}

func newSet() plainSet {
	return plainSet{turn(1, 0, 0, 0), lostOne(impl.DeskSky(), 2, 0)}
}

// turnWord is a turn as it stands in a line.
func turnWord(q impl.Turn) string {
	return fmt.Sprintf("%d,%d,%d,%d", q.A, q.B, q.C, q.D)
}

// look is plainLook, tried once.
func (o opinions) look(tracker impl.Tracker, spots []impl.Vec) impl.Tracker {
	key := fmt.Sprint(tracker.Mode, tracker.Turn, tracker.Coast, spots)
	if _, known := o.looks[key]; !known {
		o.looks[key] = plainLook(tracker, spots)
	}
	next := o.looks[key]
	next.Frames = tracker.Frames + 1
	return next
}

// names is plainIdentify, tried once.
func (o opinions) names(sky []impl.Star, spots []impl.Vec) impl.IdentOut {
	key := fmt.Sprint(spots)
	if _, known := o.which[key]; !known {
		o.which[key] = plainIdentify(sky, spots)
	}
	return o.which[key]
}

// seen is what the camera sees of the stars, in the cone of that word.
func (s plainSet) seen(word string) []impl.Vec {
	cone := int64(0)
	fmt.Sscan(word, &cone)
	if cone > 100 {
		return nil
	}
	ids := seenBy(s.tracker.Sky, s.camera, cone)
	return spotsBy(s.tracker.Sky, s.camera, ids[:min(len(ids), 6)]...)
}

// turnBy is the turn of that word, that of the camera behind it, and the code.
func (o opinions) turnBy(s plainSet, word string) (impl.Turn, impl.TurnOut) {
	by, right := o.turns[word]
	if !right {
		return by, impl.TurnOut{Code: impl.ErrSyntax}
	}
	return by, plainTurnOf(times(by, s.camera))
}

// tell does a line that is one, and is what it tells.
func (o opinions) tell(s *plainSet, line string) string {
	words := append(strings.Split(line, " "), "")
	switch words[0] {
	case "move", "drift":
		by, both := o.turnBy(*s, words[1])
		if both.Code != impl.OK {
			return fmt.Sprint("error ", both.Code)
		}
		s.camera = both.Turn
		if words[0] == "move" {
			s.tracker = plainGyro(s.tracker, by)
		}
		return "ok"
	case "ids":
		which := o.names(s.tracker.Sky, s.seen(words[1]))
		if which.Code != impl.OK {
			return fmt.Sprint("error ", which.Code)
		}
		return strings.ReplaceAll(strings.Trim(fmt.Sprint(which.Ids), "[]"), " ", ",")
	case "reset":
		s.tracker = lostOne(s.tracker.Sky, 2, s.tracker.Frames)
		return "ok"
	case "state":
		if s.tracker.Mode == 0 {
			return "0 -"
		}
		return fmt.Sprint(s.tracker.Mode, " ", turnWord(s.tracker.Turn))
	case "see":
		s.tracker = o.look(s.tracker, s.seen(words[1]))
	case "blind":
		s.tracker = o.look(s.tracker, nil)
	}
	return fmt.Sprint(s.tracker.Mode)
}

// run is a second opinion on DeskRun.
func (o opinions) run(text string) impl.DeskOut {
	if len(text) > 8000 {
		return impl.DeskOut{Code: impl.ErrSize}
	}
	set, out := newSet(), impl.DeskOut{}
	lines := strings.SplitAfter(text, "\n")
	for i, line := range lines {
		if i == len(lines)-1 && line == "" {
			break
		}
		body, ended := strings.CutSuffix(line, "\n")
		if !ended || i >= 40 || !deskForm.MatchString(body) {
			return faultAt(i)
		}
		out.Text += o.tell(&set, body) + "\n"
	}
	return out
}

// faultAt is what is told of a text whose first line that is none is that.
func faultAt(line int) impl.DeskOut {
	return impl.DeskOut{Line: int64(line), Code: 3}
}

// tells is what is told of a text of which these lines are told.
func tells(lines ...string) impl.DeskOut {
	return impl.DeskOut{Text: fed(lines...)}
}

// fed is lines with a line feed behind each.
func fed(lines ...string) string {
	if len(lines) == 0 {
		return ""
	}
	return strings.Join(lines, "\n") + "\n"
}

// checkDesk asks DeskRun and DeskFault, each of them twice.
func checkDesk(t *testing.T, text string, want impl.DeskOut) {
	t.Helper()
	got := impl.DeskRun(text)
	if got != want {
		t.Errorf("%.200q: got %+v, want %+v", text, got, want)
	}
	if again := impl.DeskRun(strings.Clone(text)); again != got {
		t.Errorf("%.200q, asked again: got %+v, want %+v", text, again, got)
	}
	want.Text = ""
	for range 2 {
		if fault := impl.DeskFault(text); fault != want {
			t.Errorf("%.200q: the fault is %+v, want %+v", text, fault, want)
		}
	}
}

// deskLines are lines of each kind, without their line feeds.
func deskLines() []string {
	return []string{"state", "blind", "reset", "see 0", "see 7", "see 100", "see 101", "see 999999999",
		"ids 0", "ids 90", "ids 123456789", "move 1,0,0,1", "move 5,-5,5,-4", "move x", "drift 1,0,0,1", "drift 0", "drift ,"}
}

// noCounts are words that are no number as a line may have it.
func noCounts() []string {
	return []string{"00", "01", "007", "000000000", "010", "1000000000", "9999999999", "0000000001", "0000000000", "18446744073709551616",
		strings.Repeat("9", 300), "-1", "-0", "+1", "+0", "-", "+", "1-", "1a", "a1", "a", "1e1", "0x1", "1_0", "1.", "1.0", ".", "1,0", ",",
		"1\t", "\t1", "1\r", "\r", "1\x00", "\x001", "\x00", "1\xff", "\xff", "1/", ":1", "٣", "１", "½", "TURN", "N", "1,0,0,0"}
}

// noLines are what is no line of a desk.
func noLines() []string {
	out := []string{"", " ", "  ", "stat", "states", "state1", "statestate", "State", "STATE", "sTate", "s", "st", "sta",
		"se 0", "seen 0", "seee 0", "see0", "See 0", "see,0", "id 0", "idss 0", "ids0", "i 0", "mov 1,0,0,0", "moves 1,0,0,0", "move1,0,0,0",
		"drif 1,0,0,0", "drifts 1,0,0,0", "drift,1,0,0,0", "blin", "blinds", "blind0", "rese", "resets", "reset0", "m", "0", "1", "ok", "error 3",
		"x", "quit", "look 0", "gyro 1,0,0,0", "1,0,0,0", "0 see", "1,0,0,0 move", "state\r", "\rstate", "\r", "see 0\r", "see\r0", "blind\r", "\tstate",
		"state\t", "see\t0", "move\t1,0,0,0", "\x00", "state\x00", "\x00state", "sta\x00te", "see 0\x00", "\xff", "stat\xe5", "\xf3tate", "state\x80",
		"ѕtate", "state\u00a0", "see\u00a00", "\ufeffstate", "move\u00a01,0,0,0", "state\v", "state\f", "state\u0085", "state\u2028state"}
	for _, word := range []string{"state", "blind", "reset"} {
		out = append(out, " "+word, word+" ", word+"  ", "  "+word, word+" 0", word+" 1,0,0,0", word+" "+word, word+" ok", word+" 0 0", word+"  0")
	}
	for _, word := range []string{"move", "drift"} {
		out = append(out, word, word+" ", word+"  ", " "+word, " "+word+" 1,0,0,0", word+"  1,0,0,0", word+" 1,0,0,0 ", word+" 1,0,0,0 1,0,0,0",
			word+" 1,0, 0,0", word+" 1, 0, 0, 0", word+" 1 0 0 0", word+" - 1,0,0,0", word+" x y", word+" x ", word+"  x", word+" 1,0,0,0 0")
	}
	for _, word := range []string{"see", "ids"} {
		out = append(out, word, word+" ", word+"  ", " "+word, " "+word+" 0", word+"  0", word+" 0 ", word+" 0 0", word+" 9 0", word+" 1 2 3", word+" 1,0,0,0")
		for _, n := range noCounts() {
			out = append(out, word+" "+n)
		}
	}
	return out
}

func TestDeskConstants(t *testing.T) {
	checkInt(t, "MaxDesk", impl.MaxDesk, 40)
}

func TestDeskSky(t *testing.T) {
	want := []impl.Star{star(1, 0, 0, 1), star(2, 1, 0, 2), star(3, 0, 1, 3), star(4, -1, -1, 2), star(5, 2, 1, 5), star(6, 1, 0, 0)}
	first := impl.DeskSky()
	checkStars(t, "DeskSky", first, want)
	if !impl.SkyRight(first) {
		t.Error("DeskSky is right")
	}
	for i := range first {
		first[i] = impl.Star{}
	}
	checkStars(t, "DeskSky behind a change of what it answered", impl.DeskSky(), want)
}

func TestDeskWords(t *testing.T) {
	want := []string{"blind", "drift", "ids", "move", "reset", "see", "state"}
	first := impl.DeskWords()
	if !slices.Equal(first, want) || !slices.IsSorted(first) {
		t.Errorf("DeskWords: got %q, want %q", first, want)
	}
	other := impl.DeskWords()
	clear(first[:cap(first)])
	if !slices.Equal(other, want) || !slices.Equal(impl.DeskWords(), want) {
		t.Errorf("DeskWords behind a change of what it answered: got %q and %q", other, impl.DeskWords())
	}
	checkDesk(t, fed("state", "blind", "reset", "see 0"), tells("0 -", "0", "ok", "1"))
	for _, word := range want {
		alone, more := impl.DeskFault(word+"\n"), impl.DeskFault(word+" 0\n")
		if (alone == impl.DeskOut{}) == (more == impl.DeskOut{}) {
			t.Errorf("%s: a line is either it alone, or it and a word", word)
		}
	}
}

func TestDeskRun(t *testing.T) {
	checkDesk(t, "", impl.DeskOut{})
	for _, c := range []struct {
		line string
		told string
	}{
		{"state", "0 -"}, {"blind", "0"}, {"reset", "ok"},
		{"see 0", "1"}, {"see 89", "1"}, {"see 91", "1"}, {"see 92", "0"}, {"see 100", "0"}, {"see 101", "0"}, {"see 999999999", "0"},
		{"ids 0", "1,2,3,4,5"}, {"ids 1", "1,2,3,4,5"}, {"ids 81", "1,2,3,4,5"}, {"ids 82", "1,2,3,5"}, {"ids 89", "1,2,3,5"}, {"ids 90", "1,3,5"},
		{"ids 91", "1,3,5"}, {"ids 92", "error 6"}, {"ids 100", "error 6"}, {"ids 101", "error 6"}, {"ids 999999999", "error 6"},
		{"move 1,0,0,1", "ok"}, {"drift 1,0,0,1", "ok"}, {"move 9", "error 3"}, {"drift 9", "error 3"},
	} {
		checkDesk(t, fed(c.line), tells(c.told))
		checkDesk(t, c.line, faultAt(0))
		checkDesk(t, fed("ids 90", c.line, "reset", "state"), tells("1,3,5", c.told, "ok", "0 -"))
	}
	// Behind all that is told and done the camera sees the same again.
	checkDesk(t, fed("see 0", "state", "move 1,0,0,1", "state", "ids 90", "blind", "reset", "state", "drift 9", "see 100"),
		tells("1", "1 1,0,0,0", "ok", "1 1,0,0,1", "1,3,5", "2", "ok", "0 -", "error 3", "0"))
}

// What is no line is told by its place, and nothing else is, wherever it
// stands.
func TestDeskFaults(t *testing.T) {
	o := newOpinions()
	for _, line := range noLines() {
		if deskForm.MatchString(line) {
			t.Fatalf("%q is a line", line)
		}
		checkDesk(t, line+"\n", faultAt(0))
		checkDesk(t, fed(line, "state"), faultAt(0))
		checkDesk(t, fed("see 0", line), faultAt(1))
		checkDesk(t, fed("see 0", "move 1,0,0,1", line, "state"), faultAt(2))
		checkDesk(t, fed("see 0", line, "state", line, "state"), faultAt(1))
		checkDesk(t, fed("state", "state", line, "", "x"), faultAt(2))
		checkDesk(t, fed("state", "", line), faultAt(1))
		if line != "" {
			checkDesk(t, line, faultAt(0))
			checkDesk(t, "state\n"+line, faultAt(1))
		}
	}
	for i, line := range deskLines() {
		ahead := slices.Repeat([]string{"blind"}, i)
		checkDesk(t, fed(ahead...)+line, faultAt(i))
		checkDesk(t, fed(ahead...)+"\n"+fed(line), faultAt(i))
		checkDesk(t, fed(append(ahead, line)...)+"\n", faultAt(i+1))
		checkDesk(t, fed(append(ahead, line)...)+"state", faultAt(i+1))
		checkDesk(t, fed(append(ahead, line)...)+" ", faultAt(i+1))
		checkDesk(t, fed(ahead...)+line+"\r\n", o.run(fed(ahead...)+line+"\r\n"))
	}
}

// A word of a line is all that is not a blank: behind a turn a carriage return,
// or another byte, makes it no turn, and behind all else it makes it no line.
func TestDeskBytes(t *testing.T) {
	o := newOpinions()
	for b := range 256 {
		other := string([]byte{byte(b)})
		checkDesk(t, other, faultAt(0))
		checkDesk(t, "state\n"+other+"\n", faultAt(1))
		for _, line := range []string{"state", "blind", "reset", "see 0", "see 90", "ids 12", "move 1,0,0,1", "drift 1,-1,0,0"} {
			for i := range len(line) + 1 {
				for _, changed := range []string{line[:i] + other + line[i:], line[:i] + other + line[min(i+1, len(line)):]} {
					text := fed("see 0", changed, "state")
					checkDesk(t, text, o.run(text))
				}
			}
		}
	}
	for _, behind := range []string{"\r", "\x00", "\xff", "\t", "\u00a0", "é", "0", ","} {
		checkDesk(t, fed("see 0", "move 1,0,0,1"+behind, "drift 1,0,0,1"+behind, "state", "ids 90"), tells("1", "error 3", "error 3", "1 1,0,0,0", "1,3,5"))
		checkDesk(t, fed("see 0", "state"+behind), faultAt(1))
		checkDesk(t, fed("see 0", behind), faultAt(1))
	}
}

func TestDeskNumbers(t *testing.T) {
	for n := range 130 {
		ids := seenBy(impl.DeskSky(), turn(1, 0, 0, 0), int64(n))
		mode, told := "1", strings.ReplaceAll(strings.Trim(fmt.Sprint(ids), "[]"), " ", ",")
		if n > 100 || len(ids) < 3 {
			mode, told = "0", "error 6"
		}
		checkDesk(t, fed(fmt.Sprint("see ", n), fmt.Sprint("ids ", n)), tells(mode, told))
	}
	for _, n := range []string{"101", "256", "1000", "65536", "12345678", "100000000", "429496729", "999999999"} {
		checkDesk(t, fed("see "+n, "ids "+n, "see 0", "see "+n, "state"), tells("0", "error 6", "1", "2", "2 1,0,0,0"))
	}
}

// Of each right turn a line tells ok, of each other text that it is none.
func TestDeskTurns(t *testing.T) {
	for i, q := range rightTurns(5) {
		word := turnWord(q)
		if i%7 == 0 {
			checkDesk(t, fed("see 0", "move "+word, "state"), tells("1", "ok", "1 "+word))
			checkDesk(t, fed("see 0", "drift "+word, "state"), tells("1", "ok", "1 1,0,0,0"))
			checkDesk(t, fed("move "+word, "drift "+turnWord(impl.Back(q)), "ids 90", "state"), tells("ok", "ok", "1,3,5", "0 -"))
		}
	}
	words := []string{"0", "x", "TURN", "-", ",", ",,,", "1", "1,0", "1,0,0", "1,0,0,0,0", "1,0,0,0,", ",1,0,0,0", "1,,0,0", "1;0;0;0", "(1,0,0,0)",
		"0,0,0,0", "2,0,0,0", "2,2,0,0", "5,5,5,5", "0,0,0,2", "4,-2,0,2", "-1,0,0,0", "0,-1,0,0", "0,0,0,-1", "-1,-1,-1,-1", "6,0,0,1", "1,0,0,6",
		"1,-6,0,0", "1,0,0,10", "1,0,0,1000", "01,0,0,0", "1,0,0,00", "1,-0,0,0", "+1,0,0,0", "1,0,0,+1", "1,0,0,1.", "a,b,c,d", "1,0,0,0x",
		"1,0,0,18446744073709551617", strings.Repeat("1", 7000), strings.Repeat("1,", 3000), "１,0,0,0", "state", "move", "1,0,0,0\r", "1,0,0,0\x00"}
	for _, q := range wrongTurns() {
		words = append(words, turnWord(q))
	}
	for _, word := range words {
		checkDesk(t, fed("see 0", "move "+word, "state", "ids 90"), tells("1", "error 3", "1 1,0,0,0", "1,3,5"))
		checkDesk(t, fed("see 0", "drift "+word, "state", "ids 90"), tells("1", "error 3", "1 1,0,0,0", "1,3,5"))
		checkDesk(t, fed("move "+word, "state"), tells("error 3", "0 -"))
	}
}

// If the camera can't be turned so, neither it nor the tracker is.
func TestDeskComposeCodes(t *testing.T) {
	far, back := "5,4,0,0", "5,-4,0,0"
	for _, c := range []struct {
		lines []string
		told  []string
	}{
		{[]string{"drift " + far, "drift " + far, "drift " + back, "ids 90"}, []string{"ok", "error 9", "ok", "1,3,5"}},
		{[]string{"move " + far, "move " + far, "move " + back, "ids 90"}, []string{"ok", "error 9", "ok", "1,3,5"}},
		{[]string{"see 0", "move " + far, "move " + far, "state"}, []string{"1", "ok", "error 9", "1 " + far}},
		// The tracker alone could have been turned so.
		{[]string{"see 0", "drift " + far, "move " + far, "state"}, []string{"1", "ok", "error 9", "1 1,0,0,0"}},
		{[]string{"see 0", "blind", "drift " + far, "move " + far, "state"}, []string{"1", "2", "ok", "error 9", "2 1,0,0,0"}},
		{[]string{"drift " + far, "move " + far, "state", "drift " + back, "see 90", "state"}, []string{"ok", "error 9", "0 -", "ok", "1", "1 1,0,0,0"}},
		// The camera alone can be turned so: the tracker is lost, and no code is told.
		{[]string{"see 0", "move " + far, "drift " + back, "move " + far, "state", "drift " + back, "see 0", "state"},
			[]string{"1", "ok", "ok", "ok", "0 -", "ok", "1", "1 1,0,0,0"}},
		{[]string{"see 0", "move " + far, "blind", "drift " + back, "move " + far, "state", "blind"}, []string{"1", "ok", "2", "ok", "ok", "0 -", "0"}},
		// It is the turn first that is asked for, and then what both make.
		{[]string{"drift " + far, "move 6,0,0,1", "move " + far}, []string{"ok", "error 3", "error 9"}},
	} {
		checkDesk(t, fed(c.lines...), tells(c.told...))
	}
	// Of two turns the later one stands ahead: they do not change places.
	checkDesk(t, fed("see 0", "move 1,1,0,0", "move 1,0,0,1", "state"), tells("1", "ok", "ok", "1 1,1,1,1"))
	checkDesk(t, fed("see 0", "move 1,0,0,1", "move 1,1,0,0", "state"), tells("1", "ok", "ok", "1 1,1,-1,1"))
	checkDesk(t, fed("drift 1,1,0,0", "drift 1,0,0,1", "move 1,-1,-1,-1", "ids 90"), tells("ok", "ok", "ok", "1,3,5"))
}

func TestDeskMovesInEachMode(t *testing.T) {
	for _, c := range []struct {
		ahead  []string
		told   []string
		before string
		behind string
	}{
		{nil, nil, "0 -", "0 -"},
		{[]string{"see 0"}, []string{"1"}, "1 1,0,0,0", "1 1,0,0,1"},
		{[]string{"see 0", "blind"}, []string{"1", "2"}, "2 1,0,0,0", "2 1,0,0,1"},
		{[]string{"see 0", "blind", "blind"}, []string{"1", "2", "2"}, "2 1,0,0,0", "2 1,0,0,1"},
		{[]string{"see 0", "blind", "blind", "blind"}, []string{"1", "2", "2", "0"}, "0 -", "0 -"},
		{[]string{"see 0", "reset"}, []string{"1", "ok"}, "0 -", "0 -"},
	} {
		with := func(lines ...string) string { return fed(append(slices.Clone(c.ahead), lines...)...) }
		want := func(told ...string) impl.DeskOut { return tells(append(slices.Clone(c.told), told...)...) }
		checkDesk(t, with("state", "move 1,0,0,1", "state"), want(c.before, "ok", c.behind))
		checkDesk(t, with("state", "drift 1,0,0,1", "state"), want(c.before, "ok", c.before))
		checkDesk(t, with("state", "reset", "state"), want(c.before, "ok", "0 -"))
		checkDesk(t, with("state", "state", "ids 90", "state"), want(c.before, c.before, "1,3,5", c.before))
		// Moved or not, it sees where it is.
		checkDesk(t, with("move 1,0,0,1", "see 90", "state"), want("ok", "1", "1 1,0,0,1"))
		checkDesk(t, with("drift 1,0,0,1", "see 90", "state"), want("ok", "1", "1 1,0,0,1"))
		checkDesk(t, with("reset", "see 90", "state"), want("ok", "1", "1 1,0,0,0"))
		// Two stars tell who knows where to look, and nobody else.
		mode := "1"
		if c.behind == "0 -" {
			mode = "0"
		}
		checkDesk(t, with("move 1,0,0,1", "see 92"), want("ok", mode))
	}
}

// So many stars are seen by these turns of the camera.
func TestDeskSees(t *testing.T) {
	for _, c := range []struct {
		turn string
		cone string
		ids  string
	}{
		{"0,0,1,-2", "90", ""}, {"1,0,0,0", "101", ""}, {"0,1,0,0", "50", ""},
		{"1,0,0,0", "95", "1"}, {"0,1,-2,1", "0", "6"}, {"1,0,1,1", "50", "3"},
		{"1,0,0,0", "92", "1,3"}, {"1,1,-1,0", "0", "5,6"}, {"1,1,-1,-1", "0", "3,5"},
		{"1,0,0,0", "90", "1,3,5"}, {"0,1,0,1", "0", "2,5,6"}, {"2,-2,-1,0", "0", "2,4,6"},
		{"2,1,-1,2", "60", "1,2,5,6"}, {"1,0,0,0", "0", "1,2,3,4,5"},
		{"1,-1,0,-1", "0", "1,2,3,4,5,6"}, {"0,1,0,2", "0", "1,2,3,4,5,6"},
	} {
		mode, told, state, known := "0", "error 6", "0 -", "2"
		if strings.Count(c.ids, ",") >= 2 {
			mode, told, state = "1", c.ids, "1 "+c.turn
		}
		if strings.Count(c.ids, ",") >= 1 {
			known = "1"
		}
		checkDesk(t, fed("drift "+c.turn, "see "+c.cone, "state", "ids "+c.cone), tells("ok", mode, state, told))
		// Told where it is, two stars do.
		checkDesk(t, fed("see 0", "move "+c.turn, "see "+c.cone, "state"), tells("1", "ok", known, known+" "+c.turn))
		checkDesk(t, fed("see 0", "blind", "blind", "move "+c.turn, "ids "+c.cone, "state"), tells("1", "2", "2", "ok", told, "2 "+c.turn))
	}
}

// By a turn of greater parts than those that are tried it is told which stars
// there are, and not how that is turned, unless it is known already.
func TestDeskOfGreatTurns(t *testing.T) {
	checkDesk(t, fed("drift 5,3,2,5", "ids 0", "see 0", "state"), tells("ok", "1,2,3,4,5,6", "0", "0 -"))
	checkDesk(t, fed("see 0", "move 5,3,2,5", "see 0", "state"), tells("1", "ok", "1", "1 5,3,2,5"))
	checkDesk(t, fed("see 0", "drift 5,3,2,5", "see 0", "state", "see 0", "see 0", "state"), tells("1", "ok", "2", "2 1,0,0,0", "2", "0", "0 -"))
}

// Promise 14, of who sees nothing: it goes on twice, and then is lost.
func TestDeskBlindGoesOnTwice(t *testing.T) {
	for _, nothing := range []string{"blind", "see 101", "see 999999999", "see 100"} {
		for _, q := range []impl.Turn{turn(1, 0, 0, 0), turn(1, 0, 0, 1), turn(2, 1, 0, 2), turn(0, 0, 0, 1)} {
			word := turnWord(q)
			checkDesk(t, fed("drift "+word, "see 0", nothing, "state", nothing, "state", nothing, "state", nothing, "state"),
				tells("ok", "1", "2", "2 "+word, "2", "2 "+word, "0", "0 -", "0", "0 -"))
			// Once it sees, it may go on as often again.
			checkDesk(t, fed("drift "+word, "see 0", nothing, nothing, "see 0", nothing, nothing, "state", nothing, "see 0", "state"),
				tells("ok", "1", "2", "2", "1", "2", "2", "2 "+word, "0", "1", "1 "+word))
			checkDesk(t, fed("drift "+word, "see 0", nothing, "reset", nothing, "state"), tells("ok", "1", "2", "ok", "0", "0 -"))
		}
	}
	checkDesk(t, fed("see 0", "blind", "ids 0", "state", "blind", "blind"), tells("1", "2", "1,2,3,4,5", "2 1,0,0,0", "2", "0"))
}

// Promise 14, of all turns that are tried: a camera tells which stars it sees,
// and how it is turned; turned and not told it finds itself anew.
func TestDeskFindsItself(t *testing.T) {
	sky, counts := impl.DeskSky(), map[int]int{}
	for _, q := range rightTurns(2) {
		for _, cone := range []int64{0, 33, 50, 71, 80, 90, 97} {
			ids := seenBy(sky, q, cone)
			counts[len(ids)]++
			drift, see, which := "drift "+turnWord(q), fmt.Sprint("see ", cone), fmt.Sprint("ids ", cone)
			if len(ids) < 3 {
				checkDesk(t, fed(drift, which, see, "state"), tells("ok", "error 6", "0", "0 -"))
				continue
			}
			told := strings.ReplaceAll(strings.Trim(fmt.Sprint(ids), "[]"), " ", ",")
			checkDesk(t, fed(drift, which, see, "state"), tells("ok", told, "1", "1 "+turnWord(q)))
			checkDesk(t, fed("see 0", drift, see, "state", which), tells("1", "ok", "1", "1 "+turnWord(q), told))
			checkDesk(t, fed("see 0", "blind", "blind", drift, see, "state"), tells("1", "2", "2", "ok", "1", "1 "+turnWord(q)))
			checkDesk(t, fed("see 0", "move "+turnWord(q), see, "state"), tells("1", "ok", "1", "1 "+turnWord(q)))
		}
	}
	for n := range 7 {
		if counts[n] < 10 {
			t.Errorf("not all kinds were tried: %v", counts)
		}
	}
}

// someLine is a line at random, most of them one that is.
func someLine(source *rand.Rand, turns []impl.Turn) string {
	word := turnWord(turns[source.IntN(len(turns))])
	cone := []int64{0, 30, 50, 70, 80, 89, 90, 92, 95, 100, 101}[source.IntN(11)]
	switch source.IntN(10) {
	case 0, 1:
		return "move " + word
	case 2:
		return "drift " + word
	case 3, 4, 5:
		return fmt.Sprint("see ", cone)
	case 6:
		return fmt.Sprint("ids ", cone)
	case 7:
		return "blind"
	case 8:
		return []string{"reset", "move 2,0,0,0", "drift x"}[source.IntN(3)]
	default:
		return "state"
	}
}

// someDesk is n lines at random.
func someDesk(source *rand.Rand, n int) []string {
	turns := append(rightTurns(1), turn(2, 1, 0, 0), turn(2, -1, 0, 0), turn(0, 1, 0, 2), turn(5, 4, 0, 0), turn(5, -4, 0, 0), turn(1, 0, 2, 0))
	var out []string
	for range n {
		out = append(out, someLine(source, turns))
	}
	return out
}

// Desks at random are held against a second opinion, with and without a fault.
func TestDeskAgainstTrying(t *testing.T) {
	source, o := rand.New(rand.NewPCG(9, 1)), newOpinions()
	wrong, counts := noLines(), map[string]int{}
	for range 500 {
		lines := someDesk(source, source.IntN(41))
		want := o.run(fed(lines...))
		checkDesk(t, fed(lines...), want)
		for _, told := range strings.Split(want.Text, "\n") {
			counts[strings.Split(told, " ")[0]]++
			counts[told]++
		}
		if len(lines) == 0 {
			continue
		}
		at := source.IntN(len(lines))
		lines[at] = wrong[source.IntN(len(wrong))]
		checkDesk(t, fed(lines...), faultAt(at))
		later := at + source.IntN(len(lines)-at)
		lines[later] = wrong[source.IntN(len(wrong))]
		checkDesk(t, fed(lines...), faultAt(at))
	}
	for _, told := range []string{"0", "1", "2", "ok", "0 -", "error 3", "error 6", "error 9", "1,3,5", "1,2,3,4,5", "1 1,0,0,0"} {
		if counts[told] < 10 {
			t.Errorf("not all kinds were tried: %q, %v", told, counts)
		}
	}
}

// Promise 13: each line tells a line, one by one: what the first of them tell
// is the beginning of what all do.
func TestEachLineTellsALine(t *testing.T) {
	source := rand.New(rand.NewPCG(9, 2))
	for range 100 {
		lines := someDesk(source, 40)
		whole := impl.DeskRun(fed(lines...))
		told := strings.SplitAfter(whole.Text, "\n")
		checkInt(t, "so many lines are told", int64(len(told)), 41)
		checkBytes(t, "behind the last line feed", told[40], "")
		for n := range lines {
			checkDesk(t, fed(lines[:n]...), impl.DeskOut{Text: strings.Join(told[:n], "")})
		}
		for i, line := range told[:40] {
			if strings.TrimSpace(line)+"\n" != line || strings.Contains(line, "  ") {
				t.Errorf("%q tells %q", lines[i], line)
			}
		}
	}
	for _, line := range deskLines() {
		for n := range 41 {
			got := impl.DeskRun(strings.Repeat(line+"\n", n))
			checkInt(t, line+", Code", got.Code, impl.OK)
			checkInt(t, fmt.Sprint(line, ", ", n, " times"), int64(strings.Count(got.Text, "\n")), int64(n))
		}
	}
}

func TestDeskOfManyLines(t *testing.T) {
	for _, line := range []string{"state", "reset", "move x", "see 0"} {
		told := map[string]string{"state": "0 -", "reset": "ok", "move x": "error 3", "see 0": "1"}[line]
		for _, n := range []int{0, 1, 2, 39, 40} {
			checkDesk(t, strings.Repeat(line+"\n", n), tells(slices.Repeat([]string{told}, n)...))
			checkDesk(t, strings.Repeat(line+"\n", n)+line, faultAt(n))
		}
		for _, n := range []int{41, 42, 80, 400, 401, 700} {
			checkDesk(t, strings.Repeat(line+"\n", n), faultAt(40))
			checkDesk(t, strings.Repeat(line+"\n", n)+"x", faultAt(40))
		}
	}
	full := strings.Repeat("state\n", 40)
	for _, line := range append(noLines(), deskLines()...) {
		checkDesk(t, full+line+"\n", faultAt(40))
		if line != "" {
			checkDesk(t, full+line, faultAt(40))
		}
	}
	for _, line := range noLines() {
		// The first of two faults is told, whichever it is.
		checkDesk(t, fed(line)+full, faultAt(0))
		checkDesk(t, full[:39*6]+fed(line), faultAt(39))
		checkDesk(t, full[:39*6]+fed(line, "state", "state"), faultAt(39))
		checkDesk(t, full+fed("state", line), faultAt(40))
		checkDesk(t, full[:20*6]+fed(line)+full, faultAt(20))
	}
}

func TestDeskSizes(t *testing.T) {
	size := impl.DeskOut{Code: impl.ErrSize}
	// 40 lines of 200 bytes are just MaxBytes.
	full := strings.Repeat("move "+strings.Repeat("7", 194)+"\n", 40)
	checkInt(t, "MaxBytes", int64(len(full)), impl.MaxBytes)
	checkDesk(t, full, tells(slices.Repeat([]string{"error 3"}, 40)...))
	checkDesk(t, full+"\n", size)
	checkDesk(t, full+"x", size)
	checkDesk(t, full[:7999], faultAt(39))
	checkDesk(t, full+full, size)
	word := "drift " + strings.Repeat("1", 7993) + "\n"
	checkDesk(t, word, tells("error 3"))
	checkDesk(t, "x"+word, size)
	checkDesk(t, word[:7999], faultAt(0))
	for _, part := range []string{"\n", "x", " ", "state\n", "see 0\n", "\x00", "\xff", "\r\n", "\r", "0", "é", "x\n"} {
		long := strings.Repeat(part, 8001)
		want := faultAt(0)
		if part == "state\n" || part == "see 0\n" {
			want.Line = 40
		}
		checkDesk(t, long[:8000], want)
		checkDesk(t, long[:8001], size)
		checkDesk(t, "state\n"+long[:7994], faultAt(max(1, int(want.Line))))
		checkDesk(t, "state\n"+long[:7995], size)
		checkDesk(t, long, size)
	}
}

// What is told is in memory of its own, and what was handed in stays.
func TestDeskAnswersAreNewMemory(t *testing.T) {
	text := fed("ids 90", "see 0", "move 1,0,0,1", "state", "drift 1,0,0,0", "move error", "ids 100")
	was := strings.Clone(text)
	got := impl.DeskRun(text)
	checkBytes(t, "what was handed in", text, was)
	checkBytes(t, "what is told", got.Text, fed("1,3,5", "1", "ok", "1 1,0,0,1", "ok", "error 3", "error 6"))
	if shares(text, got.Text) || shares(got.Text, text) {
		t.Error("DeskRun hands out a piece of its argument")
	}
	if shares(got.Text, impl.DeskRun(text).Text) {
		t.Error("two answers share their memory")
	}
}
