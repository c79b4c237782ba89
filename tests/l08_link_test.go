package tests

import (
	"encoding/binary"
	"fmt"
	"hash/crc32"
	"math"
	"math/rand/v2"
	"slices"
	"strings"
	"testing"

	"loop.example/g00577/impl"
)

// commandCase is a command, and what is said of it.
type commandCase struct {
	what    string
	command impl.Command
}

// resetIt, gyroBy, lookAt and frameAt are commands, right or not.
func resetIt() impl.Command {
	return impl.Command{Kind: 1}
}

func gyroBy(q impl.Turn) impl.Command {
	return impl.Command{Kind: 2, Turn: q}
}

func lookAt(spots ...impl.Vec) impl.Command {
	return impl.Command{Kind: 3, Spots: spots}
}

func frameAt(f impl.Frame, level int64, focal int64) impl.Command {
	return impl.Command{Kind: 4, Frame: f, Level: level, Focal: focal}
}

// halfTurned is what a camera of the focal length 6 sees of the desk's stars 1,
// 2, 3 and 4, turned by 0,0,0,1; others, of which a ring and what is in its
// midst are seen the same way, come between.
func halfTurned() impl.Frame {
	return picture(
		"...............",
		".#.#.....#####.",
		".........#...#.",
		".......#.#.#.#.",
		".........#...#.",
		"....#..#.#####.",
		"...............",
		"...............",
		"..........#....",
		"...............",
		"...............")
}

// fourStars is what it sees of the same stars without a turn.
func fourStars() impl.Frame {
	return picture(
		"...............",
		"...............",
		"....#..........",
		"...............",
		"...............",
		".......#..#....",
		"...............",
		".......#.......",
		"...............",
		"...............",
		"...............")
}

// ringed is a ring and what is in its midst, seen the same way.
func ringed() impl.Frame {
	return picture("........", ".#####..", ".#...#..", ".#.3.#.2", ".#...#..", ".#####..", "........", "........")
}

// dots is a frame with n spots of which no two are the same way.
func dots(n int64) impl.Frame {
	f := evenFrame(16, 12, 0)
	for i := range n {
		f = withPixel(f, 2+i%4*3, 3+i/4*4, byte(100+i))
	}
	return f
}

// frames are right ones, with no spots, with too many, and with all between.
func frames() []impl.Frame {
	out := []impl.Frame{
		evenFrame(1, 1, 0), evenFrame(1, 1, 255), evenFrame(16, 12, 0), evenFrame(16, 12, 255),
		frameOf(16, 12, someBytes(192)), frameOf(1, 12, someBytes(12)), frameOf(16, 1, someBytes(16)),
		halfTurned(), fourStars(), ringed(),
	}
	for n := range int64(10) {
		out = append(out, dots(n))
	}
	return out
}

// rightCommands are right ones of each kind.
func rightCommands() []impl.Command {
	out := []impl.Command{resetIt(), {Kind: 1, Spots: []impl.Vec{}}, {Kind: 3, Spots: []impl.Vec{}}}
	for _, q := range rightTurns(5) {
		out = append(out, gyroBy(q))
	}
	for n := range 7 {
		out = append(out, lookAt(manySpots(n)...))
	}
	for _, v := range wideVecs() {
		out = append(out, lookAt(v), lookAt(v, flip(v)))
	}
	for i, f := range append(frames(), someFrames(100)...) {
		for _, level := range []int64{0, 1, 254, 255, int64(i)} {
			out = append(out, frameAt(f, level, 1), frameAt(f, level, 40), frameAt(f, level, 1+int64(i%40)))
		}
	}
	return out
}

// oneOfEachKind are right ones, the shortest and longer ones of each kind.
func oneOfEachKind() []commandCase {
	return []commandCase{
		{"reset", resetIt()},
		{"gyro", gyroBy(turn(1, 0, 0, 1))},
		{"gyro by great parts", gyroBy(turn(5, -5, 5, -4))},
		{"look at nothing", lookAt()},
		{"look at one", lookAt(vec(0, 0, 1))},
		{"look at three", lookAt(vec(0, 0, 1), vec(1, 0, 2), vec(0, 1, 3))},
		{"look at six", lookAt(vec(1800, -1800, 1800), vec(0, 0, 1), vec(1, 0, 2), vec(0, 1, 3), vec(-1, -1, 2), vec(-64, 64, -65))},
		{"a dark frame", frameAt(evenFrame(1, 1, 0), 0, 1)},
		{"a frame", frameAt(fourStars(), 5, 6)},
		{"the greatest frame", frameAt(frameOf(16, 12, someBytes(192)), 255, 40)},
	}
}

// withMore are copies of a command with one part more, that its kind does not
// name.
func withMore(c commandCase) []commandCase {
	var out []commandCase
	add := func(what string, command impl.Command) {
		out = append(out, commandCase{c.what + ", and " + what, command})
	}
	if c.command.Kind != 2 {
		for _, q := range append(wrongTurns()[1:], turn(1, 0, 0, 0), turn(0, 0, 0, 1), turn(5, -5, 5, 4)) {
			more := c.command
			more.Turn = q
			add(fmt.Sprint("the turn ", q), more)
		}
	}
	if c.command.Kind != 3 {
		for _, spots := range [][]impl.Vec{{{}}, {vec(0, 0, 1)}, manySpots(6), manySpots(7), manySpots(400), manySpots(401)} {
			more := c.command
			more.Spots = spots
			add(fmt.Sprint(len(spots), " spots"), more)
		}
	}
	if c.command.Kind == 4 {
		return out
	}
	for _, f := range append(wrongFrames()[1:], evenFrame(1, 1, 0), fourStars(), frameOf(1, 0, ""), frameOf(0, 1, ""), frameOf(0, 0, "\x00")) {
		more := c.command
		more.Frame = f
		add("the frame "+drawn(f), more)
	}
	for _, n := range append(farNumbers(), -1, 1, 40, 255, 256) {
		level, focal := c.command, c.command
		level.Level, focal.Focal = n, n
		add(fmt.Sprint("Level ", n), level)
		add(fmt.Sprint("Focal ", n), focal)
	}
	return out
}

// wrongCommands are not right, in one part each.
func wrongCommands() []commandCase {
	out := []commandCase{{"nothing", impl.Command{}}}
	for _, c := range oneOfEachKind() {
		out = append(out, withMore(c)...)
		for _, kind := range append(farNumbers(), 0, -1, -3, 5, 6, 257, 260) {
			w := c.command
			w.Kind = kind
			out = append(out, commandCase{fmt.Sprint(c.what, ", of the kind ", kind), w})
		}
	}
	for _, q := range wrongTurns() {
		out = append(out, commandCase{fmt.Sprint("gyro by ", q), gyroBy(q)})
	}
	for _, s := range wrongSpots() {
		out = append(out, commandCase{"look at " + s.what, lookAt(s.spots...)})
	}
	for _, f := range wrongFrames() {
		out = append(out, commandCase{"the frame " + drawn(f), frameAt(f, 5, 8)})
	}
	for _, f := range []impl.Frame{evenFrame(1, 1, 0), fourStars()} {
		for _, n := range append(farNumbers(), -1, -255, 256, 257, 512) {
			out = append(out, commandCase{fmt.Sprint("a frame of the Level ", n), frameAt(f, n, 8)})
		}
		for _, n := range append(farNumbers(), 0, -1, -40, 41, 42) {
			out = append(out, commandCase{fmt.Sprint("a frame of the Focal ", n), frameAt(f, 5, n)})
		}
	}
	return out
}

// plainSeal is a second opinion on Seal.
func plainSeal(text string) string {
	return string(binary.LittleEndian.AppendUint32([]byte(text), crc32.ChecksumIEEE([]byte(text))))
}

// plainNumbers is these numbers as the library writes them.
func plainNumbers(numbers ...int64) string {
	var out []byte
	for _, n := range numbers {
		out = binary.AppendVarint(out, n)
	}
	return string(out)
}

// plainCommand is what the document says of a command's bytes, without their
// seal, of one of a kind that there is, right or not.
func plainCommand(c impl.Command) string {
	switch c.Kind {
	case 2:
		return plainNumbers(2, c.Turn.A, c.Turn.B, c.Turn.C, c.Turn.D)
	case 3:
		out := plainNumbers(3, int64(len(c.Spots)))
		for _, v := range c.Spots {
			out += plainNumbers(v.X, v.Y, v.Z)
		}
		return out
	case 4:
		f := c.Frame
		return plainNumbers(4, f.Width, f.Height, c.Level, c.Focal, int64(len(f.Pixels))) + f.Pixels
	default:
		return plainNumbers(c.Kind)
	}
}

// plainItem is a command as it stands in a row.
func plainItem(c impl.Command) string {
	return plainText(plainSeal(plainCommand(c)))
}

// plainText is a text as it stands in a row.
func plainText(text string) string {
	return plainNumbers(int64(len(text))) + text
}

// plainRow is commands one behind the other.
func plainRow(commands ...impl.Command) string {
	var out strings.Builder
	for _, c := range commands {
		out.WriteString(plainItem(c))
	}
	return out.String()
}

// plainKept is what is looked at of a frame.
func plainKept(c impl.Command) []impl.Vec {
	var out []impl.Vec
	for _, v := range plainSpots(c.Frame, c.Level, c.Focal) {
		if !slices.ContainsFunc(out, func(w impl.Vec) bool { return plainSameWay(v, w) }) {
			out = append(out, v)
		}
	}
	return out[:min(6, len(out))]
}

// plainObey is a second opinion on Obey, of what is right.
func plainObey(tracker impl.Tracker, c impl.Command) impl.TrackerOut {
	switch {
	case c.Kind == 1:
		return ok(lostOne(tracker.Sky, tracker.Limit, tracker.Frames))
	case c.Kind == 2:
		return ok(plainGyro(tracker, c.Turn))
	case tracker.Frames == 1000000:
		return faulty(impl.ErrFull)
	case c.Kind == 3:
		return ok(plainLook(tracker, c.Spots))
	default:
		return ok(plainLook(tracker, plainKept(c)))
	}
}

// plainTell is what the document says of what is told, of any tracker.
func plainTell(tracker impl.Tracker) string {
	q := tracker.Turn
	return plainSeal(plainNumbers(tracker.Mode, q.A, q.B, q.C, q.D, tracker.Coast, tracker.Frames))
}

// plainLink is a second opinion on Link, of a row of these commands, right
// ones, and something behind them that is none.
func plainLink(tracker impl.Tracker, commands []impl.Command) impl.LinkOut {
	out := impl.LinkOut{Tracker: tracker}
	for i, c := range commands {
		next := plainObey(out.Tracker, c)
		if i == 400 || next.Code != impl.OK {
			break
		}
		out.Tracker = next.Tracker
		out.Told = append(out.Told, plainTell(next.Tracker))
		out.At += int64(len(plainItem(c)))
	}
	return out
}

func sameCommand(a impl.Command, b impl.Command) bool {
	return a.Kind == b.Kind && a.Turn == b.Turn && slices.Equal(a.Spots, b.Spots) &&
		a.Frame == b.Frame && a.Level == b.Level && a.Focal == b.Focal
}

func checkCommand(t *testing.T, what string, got impl.CommandOut, want impl.CommandOut) {
	t.Helper()
	if got.Code != want.Code || !sameCommand(got.Command, want.Command) {
		t.Errorf("%s: got %#v, want %#v", what, got, want)
	}
}

// linked tells an answer so that all of its bytes can be read.
func linked(out impl.LinkOut) string {
	return fmt.Sprintf("%d at %d, code %d, %+v, %q", len(out.Told), out.At, out.Code, out.Tracker, out.Told)
}

func checkLink(t *testing.T, what string, got impl.LinkOut, want impl.LinkOut) {
	t.Helper()
	if got.Code != want.Code || got.At != want.At || !slices.Equal(got.Told, want.Told) || !sameTracker(got.Tracker, want.Tracker) {
		t.Errorf("%s: got %.2000s, want %.2000s", what, linked(got), linked(want))
	}
}

func checkBytes(t *testing.T, what string, got string, want string) {
	t.Helper()
	if got != want {
		t.Errorf("%s: got %q, want %q", what, got, want)
	}
}

func TestLinkConstants(t *testing.T) {
	checkInt(t, "CmReset", impl.CmReset, 1)
	checkInt(t, "CmGyro", impl.CmGyro, 2)
	checkInt(t, "CmLook", impl.CmLook, 3)
	checkInt(t, "CmFrame", impl.CmFrame, 4)
}

func TestCommandRight(t *testing.T) {
	for _, c := range rightCommands() {
		if !impl.CommandRight(c) {
			t.Errorf("%#v is right", c)
		}
	}
	for _, c := range oneOfEachKind() {
		if !impl.CommandRight(c.command) {
			t.Errorf("%s: is right", c.what)
		}
	}
	for _, c := range wrongCommands() {
		if impl.CommandRight(c.command) {
			t.Errorf("%s: is not right", c.what)
		}
	}
}

// Of turns of all parts near those that may be, just the right ones are.
func TestCommandRightOfTurns(t *testing.T) {
	for _, q := range turnsOf(3) {
		for kind := int64(0); kind <= 5; kind++ {
			want := kind == 2 && plainlyRight(q) || (kind == 1 || kind == 3) && q == impl.Turn{}
			if got := impl.CommandRight(impl.Command{Kind: kind, Turn: q}); got != want {
				t.Errorf("kind %d by %v: got %v", kind, q, got)
			}
		}
	}
}

// Of each Level and each Focal, just those that the document lets be are right.
func TestCommandRightOfLevels(t *testing.T) {
	count := 0
	for level := int64(-2); level <= 258; level++ {
		for focal := int64(-2); focal <= 43; focal++ {
			want := level >= 0 && level <= 255 && focal >= 1 && focal <= 40
			if impl.CommandRight(frameAt(evenFrame(2, 2, 7), level, focal)) != want {
				t.Errorf("Level %d and Focal %d", level, focal)
			}
			if want {
				count++
			}
		}
	}
	checkInt(t, "so many are right", int64(count), 256*40)
}

func TestCommandBytes(t *testing.T) {
	for _, c := range []struct {
		what    string
		command impl.Command
		body    string
	}{
		{"reset", resetIt(), "\x02"},
		{"gyro", gyroBy(turn(1, 0, -1, 5)), "\x04\x02\x00\x01\x0a"},
		{"look at nothing", lookAt(), "\x06\x00"},
		{"look at two", lookAt(vec(0, 0, 1), vec(64, -1, 1800)), "\x06\x04\x00\x00\x02\x80\x01\x01\x90\x1c"},
		{"a frame", frameAt(frameOf(2, 1, "\xff\x00"), 255, 40), "\x08\x04\x02\xfe\x03\x50\x04\xff\x00"},
	} {
		checkBytes(t, c.what, impl.CommandBytes(c.command), plainSeal(c.body))
	}
	for _, c := range rightCommands() {
		checkBytes(t, fmt.Sprintf("%#v", c), impl.CommandBytes(c), plainSeal(plainCommand(c)))
	}
	for _, c := range wrongCommands() {
		checkBytes(t, c.what, impl.CommandBytes(c.command), "")
	}
}

// Promise 12, of a command: a right one comes back from its bytes.
func TestCommandsComeBack(t *testing.T) {
	seen := map[string]impl.Command{}
	for _, c := range rightCommands() {
		bytes := impl.CommandBytes(c)
		checkCommand(t, "from its bytes", impl.CommandRead(bytes), impl.CommandOut{Command: c})
		if other, there := seen[bytes]; there && !sameCommand(c, other) {
			t.Errorf("%#v and %#v have the same bytes", c, other)
		}
		seen[bytes] = c
	}
}

// The seal is looked at ahead of what is under it, the size ahead of both.
func TestCommandReadSeals(t *testing.T) {
	sum, short := impl.CommandOut{Code: impl.ErrSum}, impl.CommandOut{Code: impl.ErrShort}
	for _, c := range append(oneOfEachKind(), commandCase{"no turn", gyroBy(impl.Turn{})}, commandCase{"nothing", impl.Command{}}) {
		sealed := []byte(plainSeal(plainCommand(c.command)))
		for i := range sealed {
			for _, by := range []byte{1, 2, 64, 128, 255} {
				sealed[i] ^= by
				checkCommand(t, c.what+", a byte turned", impl.CommandRead(string(sealed)), sum)
				sealed[i] ^= by
			}
		}
		for cut := range len(sealed) {
			want := sum
			if cut < 4 {
				want = short
			}
			checkCommand(t, c.what+", cut off", impl.CommandRead(string(sealed[:cut])), want)
		}
		for b := range 256 {
			checkCommand(t, c.what+", a byte behind", impl.CommandRead(string(sealed)+string([]byte{byte(b)})), sum)
		}
	}
	syntax, size := impl.CommandOut{Code: impl.ErrSyntax}, impl.CommandOut{Code: impl.ErrSize}
	checkCommand(t, "no seal, MaxBytes", impl.CommandRead(strings.Repeat("\x01", 8000)), sum)
	checkCommand(t, "no seal, one more", impl.CommandRead(strings.Repeat("\x01", 8001)), size)
	checkCommand(t, "a seal, MaxBytes", impl.CommandRead(plainSeal(someBytes(7996))), syntax)
	checkCommand(t, "a seal, one more", impl.CommandRead(plainSeal(someBytes(7997))), size)
	checkCommand(t, "a command, and more than MaxBytes", impl.CommandRead(impl.CommandBytes(resetIt())+someBytes(8000)), size)
}

func TestCommandReadUnderTheSeal(t *testing.T) {
	syntax := impl.CommandOut{Code: impl.ErrSyntax}
	for _, c := range oneOfEachKind() {
		text := plainCommand(c.command)
		for cut := range len(text) {
			checkCommand(t, c.what+", cut off under the seal", impl.CommandRead(plainSeal(text[:cut])), syntax)
		}
		for b := range 256 {
			checkCommand(t, c.what+", a byte behind, under the seal", impl.CommandRead(plainSeal(text+string([]byte{byte(b)}))), syntax)
		}
		checkCommand(t, c.what+", twice", impl.CommandRead(plainSeal(text+text)), syntax)
		checkCommand(t, c.what+", a seal in a seal", impl.CommandRead(plainSeal(plainSeal(text))), syntax)
		checkCommand(t, c.what+", as a text", impl.CommandRead(plainSeal(plainText(text))), syntax)
	}
	for _, text := range []string{
		"", "\x00", "\x01", "\x03", "\x05", "\x07", "\x09", "\x0a", "\x0c", "\x80", "\x82\x00", "\x82\x80\x00", "\xff",
		plainNumbers(math.MinInt64), plainNumbers(math.MaxInt64), plainNumbers(257), plainNumbers(1<<32 + 1),
		strings.Repeat("\xff", 9) + "\x01", strings.Repeat("\xff", 9) + "\x02", strings.Repeat("\xff", 10), strings.Repeat("\x80", 10),
	} {
		checkCommand(t, fmt.Sprintf("%q", text), impl.CommandRead(plainSeal(text)), syntax)
	}
}

// Numbers that have more bytes than are needed are not those of PutNum.
func TestCommandReadOfLongNumbers(t *testing.T) {
	syntax := impl.CommandOut{Code: impl.ErrSyntax}
	for _, c := range oneOfEachKind() {
		text := plainCommand(c.command)
		end := len(text) - len(c.command.Frame.Pixels)
		for i := range end {
			// The last byte of a number goes on, and what follows is 0.
			if text[i] < 128 {
				long := text[:i] + string([]byte{text[i] | 128, 0}) + text[i+1:]
				checkCommand(t, fmt.Sprint(c.what, ", the byte ", i), impl.CommandRead(plainSeal(long)), syntax)
				longer := text[:i] + string([]byte{text[i] | 128, 128, 0}) + text[i+1:]
				checkCommand(t, fmt.Sprint(c.what, ", the byte ", i), impl.CommandRead(plainSeal(longer)), syntax)
			}
		}
	}
}

// Bytes of what would be a command, but is not right.
func TestCommandReadOfWrongOnes(t *testing.T) {
	syntax := impl.CommandOut{Code: impl.ErrSyntax}
	for _, c := range wrongCommands() {
		// What a kind does not name is not in its bytes: those are of a right one.
		if c.command.Kind < 1 || c.command.Kind > 4 {
			checkCommand(t, c.what, impl.CommandRead(plainSeal(plainCommand(c.command))), syntax)
		}
	}
	for _, q := range wrongTurns() {
		checkCommand(t, fmt.Sprint("by ", q), impl.CommandRead(plainSeal(plainCommand(gyroBy(q)))), syntax)
	}
	for _, s := range wrongSpots() {
		text := plainSeal(plainCommand(lookAt(s.spots...)))
		checkCommand(t, s.what, impl.CommandRead(text), syntax)
	}
	for _, f := range wrongFrames() {
		want := syntax
		text := plainSeal(plainCommand(frameAt(f, 5, 8)))
		if len(text) > 8000 {
			want.Code = impl.ErrSize
		}
		checkCommand(t, drawn(f), impl.CommandRead(text), want)
	}
	for _, n := range append(farNumbers(), -1, 256, 257) {
		checkCommand(t, fmt.Sprint("Level ", n), impl.CommandRead(plainSeal(plainCommand(frameAt(fourStars(), n, 8)))), syntax)
	}
	for _, n := range append(farNumbers(), 0, -1, 41) {
		checkCommand(t, fmt.Sprint("Focal ", n), impl.CommandRead(plainSeal(plainCommand(frameAt(fourStars(), 5, n)))), syntax)
	}
	three := plainNumbers(0, 0, 1, 1, 0, 2, 0, 1, 3)
	for _, n := range append(farNumbers(), -1, -3, 0, 1, 2, 4, 5, 6, 7, 400, 401) {
		checkCommand(t, fmt.Sprint(n, " spots that are three"), impl.CommandRead(plainSeal(plainNumbers(3, n)+three)), syntax)
		if n != 0 {
			checkCommand(t, fmt.Sprint(n, " spots that are none"), impl.CommandRead(plainSeal(plainNumbers(3, n))), syntax)
		}
		if n != 4 {
			checkCommand(t, fmt.Sprint(n, " pixels that are four"), impl.CommandRead(plainSeal(plainNumbers(4, 2, 2, 5, 8, n)+"abcd")), syntax)
		}
	}
}

// One byte changed under a right seal makes another right command's bytes, or
// none.
func TestCommandReadIsWrittenOneWay(t *testing.T) {
	counts := map[int64]int{}
	for _, c := range oneOfEachKind() {
		text := []byte(plainCommand(c.command))
		for i, was := range text {
			for b := range 256 {
				text[i] = byte(b)
				sealed := plainSeal(string(text))
				got := impl.CommandRead(sealed)
				counts[got.Code]++
				if got.Code == impl.OK && (!impl.CommandRight(got.Command) || impl.CommandBytes(got.Command) != sealed) {
					t.Errorf("%q is read as %#v", text, got.Command)
				} else if got.Code != impl.OK {
					checkCommand(t, "beside a code", got, impl.CommandOut{Code: impl.ErrSyntax})
				}
			}
			text[i] = was
		}
	}
	if counts[impl.OK] < 1000 || counts[impl.ErrSyntax] < 1000 {
		t.Errorf("not all kinds were tried: %v", counts)
	}
}

func TestObey(t *testing.T) {
	desk, half, quarter := impl.DeskSky(), turn(0, 0, 0, 1), turn(1, 0, 0, 1)
	still := turn(1, 0, 0, 0)
	three := lookAt(spotsBy(desk, half, 1, 2, 3)...)
	two := lookAt(spotsBy(desk, half, 4, 1)...)
	for _, c := range []struct {
		what    string
		tracker impl.Tracker
		command impl.Command
		want    impl.Tracker
	}{
		{"lost, reset", lostOne(desk, 2, 7), resetIt(), lostOne(desk, 2, 7)},
		{"tracks, reset", trackOne(desk, 2, half, 7), resetIt(), lostOne(desk, 2, 7)},
		{"coasts, reset", coastOne(desk, 2, half, 1, 7), resetIt(), lostOne(desk, 2, 7)},
		{"lost, turned", lostOne(desk, 2, 7), gyroBy(quarter), lostOne(desk, 2, 7)},
		{"tracks, turned", trackOne(desk, 2, quarter, 7), gyroBy(quarter), trackOne(desk, 2, half, 7)},
		{"coasts, turned", coastOne(desk, 2, quarter, 2, 7), gyroBy(quarter), coastOne(desk, 2, half, 2, 7)},
		{"about Z, and then about X", trackOne(desk, 2, quarter, 7), gyroBy(turn(1, 1, 0, 0)), trackOne(desk, 2, turn(1, 1, -1, 1), 7)},
		{"tracks, turned to no turn", trackOne(desk, 2, turn(5, 5, 5, 4), 7), gyroBy(turn(1, 2, 3, 4)), lostOne(desk, 2, 7)},
		{"lost, sees nothing", lostOne(desk, 2, 7), lookAt(), lostOne(desk, 2, 8)},
		{"tracks, sees nothing", trackOne(desk, 2, half, 7), lookAt(), coastOne(desk, 2, half, 1, 8)},
		{"coasts, sees nothing", coastOne(desk, 2, half, 1, 7), lookAt(), coastOne(desk, 2, half, 2, 8)},
		{"coasts for the last time, sees nothing", coastOne(desk, 2, half, 2, 7), lookAt(), lostOne(desk, 2, 8)},
		{"lost, sees two", lostOne(desk, 2, 7), two, lostOne(desk, 2, 8)},
		{"tracks, sees two", trackOne(desk, 2, half, 7), two, trackOne(desk, 2, half, 8)},
		{"coasts, sees two", coastOne(desk, 2, half, 1, 7), two, trackOne(desk, 2, half, 8)},
		{"lost, sees three", lostOne(desk, 2, 7), three, trackOne(desk, 2, half, 8)},
		{"tracks by another turn, sees three", trackOne(desk, 2, quarter, 7), three, trackOne(desk, 2, half, 8)},
		{"coasts by another turn, sees three", coastOne(desk, 2, quarter, 2, 7), three, trackOne(desk, 2, half, 8)},
		{"lost, a dark frame", lostOne(desk, 2, 7), frameAt(evenFrame(16, 12, 9), 9, 6), lostOne(desk, 2, 8)},
		{"tracks, a dark frame", trackOne(desk, 2, half, 7), frameAt(evenFrame(16, 12, 9), 9, 6), coastOne(desk, 2, half, 1, 8)},
		{"coasts, a dark frame", coastOne(desk, 2, half, 2, 7), frameAt(evenFrame(16, 12, 9), 9, 6), lostOne(desk, 2, 8)},
		{"lost, a frame", lostOne(desk, 2, 7), frameAt(fourStars(), 5, 6), trackOne(desk, 2, still, 8)},
		{"tracks by another turn, a frame", trackOne(desk, 2, quarter, 7), frameAt(fourStars(), 254, 6), trackOne(desk, 2, still, 8)},
		{"coasts, a frame", coastOne(desk, 2, still, 1, 7), frameAt(fourStars(), 0, 6), trackOne(desk, 2, still, 8)},
		{"a frame of no pixel above the Level", lostOne(desk, 2, 7), frameAt(fourStars(), 255, 6), lostOne(desk, 2, 8)},
		{"a frame of another Focal", lostOne(desk, 2, 7), frameAt(fourStars(), 5, 7), lostOne(desk, 2, 8)},
	} {
		checkTracker(t, c.what, impl.Obey(c.tracker, c.command), ok(c.want))
	}
}

// Of a frame two spots that are the same way are one, and six are looked at.
func TestObeyOfManySpots(t *testing.T) {
	desk, half := impl.DeskSky(), turn(0, 0, 0, 1)
	f := frameAt(halfTurned(), 5, 6)
	checkInt(t, "spots of halfTurned", int64(len(plainSpots(f.Frame, 5, 6))), 8)
	checkInt(t, "spots of ringed", int64(len(plainSpots(ringed(), 2, 6))), 2)
	for n := range int64(9) {
		checkInt(t, "spots of dots", int64(len(plainSpots(dots(n), 5, 6))), n)
	}
	checkInt(t, "spots of nine dots", int64(len(plainSpots(dots(9), 5, 6))), 0)
	// The third star is the sixth spot, counted without the midst of the ring.
	checkTracker(t, "three stars of six", impl.Obey(lostOne(desk, 1, 0), f), ok(trackOne(desk, 1, half, 1)))
	// With one more ahead it is the seventh.
	more := frameAt(withPixel(f.Frame, 5, 1, 255), 5, 6)
	more.Frame = withPixel(more.Frame, 10, 8, 0)
	checkInt(t, "spots with one more ahead", int64(len(plainSpots(more.Frame, 5, 6))), 8)
	checkTracker(t, "two stars of six", impl.Obey(lostOne(desk, 1, 0), more), ok(lostOne(desk, 1, 1)))
	checkTracker(t, "two stars of six, where they ought to be", impl.Obey(trackOne(desk, 1, half, 0), more), ok(trackOne(desk, 1, half, 1)))
	// Of one star alone in the midst of a ring there is one spot.
	ring := []impl.Star{star(3, 0, 0, 1), star(4, 1, 0, 0)}
	for level := range int64(4) {
		c := frameAt(ringed(), level, 40)
		checkTracker(t, "the same way", impl.Obey(trackOne(ring, 3, half, 0), c), ok(coastOne(ring, 3, half, 1, 1)))
	}
}

// Each kind is obeyed by each kind of tracker as a second opinion says.
func TestObeyAgainstTrying(t *testing.T) {
	source := rand.New(rand.NewPCG(8, 1))
	few := rightTurns(1)
	counts := map[[2]int64]int{}
	for i := range 400 {
		sky := impl.DeskSky()
		if i%2 == 0 {
			sky = someSky(source, 1+source.IntN(6))
		}
		q := few[source.IntN(len(few))]
		for _, from := range oneOfEach(sky, q, int64(999995+i%6)) {
			c := someCommand(source, from.tracker)
			got := impl.Obey(from.tracker, c)
			counts[[2]int64{c.Kind, from.tracker.Mode}]++
			checkTracker(t, fmt.Sprintf("%+v obeys %#v", from.tracker, c), got, plainObey(from.tracker, c))
			if got.Code == impl.OK && !impl.TrackerRight(got.Tracker) {
				t.Errorf("%+v is right", got.Tracker)
			}
		}
	}
	for kind := int64(1); kind <= 4; kind++ {
		for mode := range int64(3) {
			if counts[[2]int64{kind, mode}] < 20 {
				t.Errorf("not all kinds were tried: %v", counts)
			}
		}
	}
}

// someCommand is a right one at random, that of one seed the same every time;
// most tell the tracker something.
func someCommand(source *rand.Rand, tracker impl.Tracker) impl.Command {
	few := rightTurns(1)
	switch source.IntN(8) {
	case 0:
		return resetIt()
	case 1, 2:
		return gyroBy(few[source.IntN(len(few))])
	case 3, 4, 5:
		return lookAt(someLook(source, tracker, few)...)
	default:
		all := frames()
		return frameAt(all[source.IntN(len(all))], source.Int64N(256), 1+source.Int64N(40))
	}
}

// A look behind the last frame tells a code, what is no look does not.
func TestObeyAtTheLastFrames(t *testing.T) {
	desk, q := impl.DeskSky(), turn(0, 0, 0, 1)
	for i, late := range oneOfEach(desk, q, 1000000) {
		early := oneOfEach(desk, q, 999999)[i].tracker
		for _, c := range oneOfEachKind() {
			what := late.what + ", " + c.what
			got := impl.Obey(late.tracker, c.command)
			if c.command.Kind > 2 {
				checkTracker(t, what, got, faulty(impl.ErrFull))
			} else {
				checkTracker(t, what, got, plainObey(late.tracker, c.command))
				checkInt(t, what, got.Code, impl.OK)
			}
			checkTracker(t, what+", one frame ahead", impl.Obey(early, c.command), plainObey(early, c.command))
			checkInt(t, what+", one frame ahead", impl.Obey(early, c.command).Code, impl.OK)
		}
	}
}

func TestObeyRefusals(t *testing.T) {
	desk, q := impl.DeskSky(), turn(1, 0, 0, 1)
	for _, w := range wrongTrackers() {
		for _, c := range oneOfEachKind() {
			checkTracker(t, w.what+", "+c.what, impl.Obey(w.tracker, c.command), faulty(impl.ErrForm))
		}
	}
	for _, frames := range []int64{7, 1000000} {
		for _, right := range oneOfEach(desk, q, frames) {
			for _, c := range wrongCommands() {
				checkTracker(t, right.what+", "+c.what, impl.Obey(right.tracker, c.command), faulty(impl.ErrForm))
			}
		}
	}
	commands := wrongCommands()
	for i, w := range wrongTrackers() {
		for j := range 9 {
			c := commands[(i*9+j*101)%len(commands)]
			checkTracker(t, w.what+", "+c.what, impl.Obey(w.tracker, c.command), faulty(impl.ErrForm))
		}
	}
}

// Lists that are fields are too long for what they are in, not for the call.
func TestObeySizes(t *testing.T) {
	desk, q := impl.DeskSky(), turn(1, 0, 0, 1)
	for _, n := range []int{400, 401} {
		for _, c := range oneOfEach(desk, q, 1000000) {
			long := c.tracker
			long.Sky = manyStars(n)
			checkTracker(t, c.what, impl.Obey(c.tracker, lookAt(manySpots(n)...)), faulty(impl.ErrForm))
			checkTracker(t, c.what+", of as many stars", impl.Obey(long, lookAt(manySpots(n)...)), faulty(impl.ErrForm))
			checkTracker(t, c.what+", of as many stars, reset", impl.Obey(long, resetIt()), faulty(impl.ErrForm))
			checkBytes(t, c.what+", of as many stars, told", impl.Tell(long), "")
			checkLink(t, c.what+", of as many stars, linked", impl.Link(long, ""), impl.LinkOut{Code: impl.ErrForm})
		}
	}
	for _, n := range []int{8000, 8001} {
		f := frameAt(frameOf(16, 12, strings.Repeat("\x09", n)), 5, 6)
		checkTracker(t, "long Pixels", impl.Obey(lostOne(desk, 1, 0), f), faulty(impl.ErrForm))
		checkBytes(t, "long Pixels", impl.CommandBytes(f), "")
	}
}

func TestTell(t *testing.T) {
	desk, q := impl.DeskSky(), turn(5, -1, 0, -5)
	for _, c := range []struct {
		what    string
		tracker impl.Tracker
		body    string
	}{
		{"lost", lostOne(desk, 2, 0), "\x00\x00\x00\x00\x00\x00\x00"},
		{"lost, behind some frames", lostOne(nil, 5, 64), "\x00\x00\x00\x00\x00\x00\x80\x01"},
		{"tracks", trackOne(desk, 2, q, 3), "\x02\x0a\x01\x00\x09\x00\x06"},
		{"coasts", coastOne(desk, 4, q, 3, 1000000), "\x04\x0a\x01\x00\x09\x06\x80\x89\x7a"},
	} {
		checkBytes(t, c.what, impl.Tell(c.tracker), plainSeal(c.body))
	}
	for _, tracker := range rightTrackers() {
		checkBytes(t, fmt.Sprintf("%+v", tracker), impl.Tell(tracker), plainTell(tracker))
	}
	for _, c := range wrongTrackers() {
		checkBytes(t, c.what, impl.Tell(c.tracker), "")
	}
}

func TestLinkOfFew(t *testing.T) {
	desk, quarter, half := impl.DeskSky(), turn(1, 0, 0, 1), turn(0, 0, 0, 1)
	three := lookAt(spotsBy(desk, quarter, 1, 2, 3)...)
	for _, tracker := range rightTrackers() {
		checkLink(t, fmt.Sprintf("no command, %+v", tracker), impl.Link(tracker, ""), impl.LinkOut{Tracker: tracker})
	}
	row := plainRow(three, gyroBy(quarter), lookAt(), resetIt(), frameAt(halfTurned(), 5, 6))
	steps := []impl.Tracker{
		trackOne(desk, 1, quarter, 1), trackOne(desk, 1, half, 1), coastOne(desk, 1, half, 1, 2),
		lostOne(desk, 1, 2), trackOne(desk, 1, half, 3),
	}
	want := impl.LinkOut{Tracker: steps[4], At: int64(len(row))}
	for _, s := range steps {
		want.Told = append(want.Told, plainTell(s))
	}
	checkLink(t, "five", impl.Link(lostOne(desk, 1, 0), row), want)
	for _, from := range oneOfEach(desk, half, 7) {
		for _, c := range oneOfEachKind() {
			item := plainItem(c.command)
			next := plainObey(from.tracker, c.command).Tracker
			want := impl.LinkOut{Tracker: next, Told: []string{plainTell(next)}, At: int64(len(item))}
			checkLink(t, from.what+", "+c.what, impl.Link(from.tracker, item), want)
		}
	}
}

// someRow is n commands at random, as the tracker comes by them.
func someRow(source *rand.Rand, tracker impl.Tracker, n int) []impl.Command {
	var out []impl.Command
	for range n {
		c := someCommand(source, tracker)
		out = append(out, c)
		if next := impl.Obey(tracker, c); next.Code == impl.OK {
			tracker = next.Tracker
		}
	}
	return out
}

// Rows of many are held against a second opinion, command by command.
func TestLinkAgainstTrying(t *testing.T) {
	source := rand.New(rand.NewPCG(8, 2))
	short := 0
	for i := range 60 {
		sky := someSky(source, 1+source.IntN(6))
		tracker := lostOne(sky, 1+int64(i%5), 0)
		if i%3 == 0 {
			tracker.Frames = 999995
		}
		commands := someRow(source, tracker, source.IntN(20))
		want := plainLink(tracker, commands)
		if len(want.Told) < len(commands) {
			short++
		}
		checkLink(t, fmt.Sprintf("%#v by %#v", tracker, commands), impl.Link(tracker, plainRow(commands...)), want)
	}
	if short < 5 || short > 30 {
		t.Errorf("%d rows ended early", short)
	}
}

// Promise 12, of a row: what is told behind the first commands is the
// beginning of what is told behind all.
func TestWhatIsToldFirstIsTheBeginning(t *testing.T) {
	source := rand.New(rand.NewPCG(8, 3))
	for i := range 40 {
		tracker := lostOne(impl.DeskSky(), 1+int64(i%5), int64(999990+i%9))
		commands := someRow(source, tracker, 25)
		all := impl.Link(tracker, plainRow(commands...))
		told := len(all.Told)
		for n := range len(commands) + 1 {
			first := impl.Link(tracker, plainRow(commands[:n]...))
			place := int64(len(plainRow(commands[:min(n, told)]...)))
			if first.Code != impl.OK || first.At != place || !slices.Equal(first.Told, all.Told[:min(n, told)]) {
				t.Errorf("the first %d of %d: got %s, and of all %s", n, told, linked(first), linked(all))
			}
			rest := impl.Link(first.Tracker, plainRow(commands[min(n, told):]...))
			want := impl.LinkOut{Tracker: all.Tracker, Told: all.Told[min(n, told):], At: all.At - place}
			checkLink(t, "the rest", rest, want)
		}
	}
}

func TestLinkOfMany(t *testing.T) {
	desk, quarter := impl.DeskSky(), turn(1, 0, 0, 1)
	tracker := trackOne(desk, 5, turn(1, 0, 0, 0), 0)
	kinds := []impl.Command{gyroBy(quarter), lookAt(), lookAt(spotsBy(desk, quarter, 1, 2, 3)...), gyroBy(turn(1, 1, 0, 0)), lookAt(), resetIt()}
	var commands []impl.Command
	for i := range 500 {
		commands = append(commands, kinds[i%len(kinds)])
	}
	for _, n := range []int{1, 2, 100, 398, 399, 400, 401, 402, 500} {
		row := plainRow(commands[:n]...)
		want := plainLink(tracker, commands[:n])
		checkInt(t, "so many are told", int64(len(want.Told)), int64(min(n, 400)))
		checkLink(t, fmt.Sprint(n), impl.Link(tracker, row), want)
		checkLink(t, fmt.Sprint(n, ", and what is none"), impl.Link(tracker, row+"\x00"), want)
	}
	// Behind MaxList of them nothing is asked any more.
	resets := strings.Repeat(plainItem(resetIt()), 400)
	for _, behind := range []string{"", "\x80", "\x00", plainItem(resetIt()), plainItem(gyroBy(quarter)), plainItem(gyroBy(impl.Turn{}))} {
		got := impl.Link(tracker, resets+behind)
		checkInt(t, "At behind MaxList", got.At, int64(len(resets)))
		checkInt(t, "Told behind MaxList", int64(len(got.Told)), 400)
		checkInt(t, "Code behind MaxList", got.Code, impl.OK)
	}
}

// noItems are pieces of a row that are no command, or none that is right.
func noItems() map[string]string {
	out := map[string]string{
		"a text that does not end":      "zz",
		"a number that does not end":    "\x80",
		"a number of too many bytes":    "\x8a\x00" + plainSeal("\x02"),
		"a number above all":            strings.Repeat("\xff", 10),
		"a length below 0":              "\x01",
		"a length above MaxBytes":       plainNumbers(8001) + someBytes(100),
		"the empty text":                plainText(""),
		"a text too short for a seal":   plainText("abc"),
		"a seal of nothing":             plainText(plainSeal("")),
		"a text without a seal":         plainText("\x02abcd"),
		"a command without a seal":      plainText("\x02"),
		"a command without its length":  plainSeal("\x02"),
		"a seal with a byte turned":     plainText("\x03" + plainSeal("\x02")[1:]),
		"a kind below all":              plainItem(impl.Command{}),
		"a kind above all":              plainItem(impl.Command{Kind: 5}),
		"the least kind":                plainItem(impl.Command{Kind: math.MinInt64}),
		"no turn":                       plainItem(gyroBy(impl.Turn{})),
		"a turn that is not right":      plainItem(gyroBy(turn(2, 0, 0, 2))),
		"a turn cut off":                plainText(plainSeal("\x04\x02\x00\x00")),
		"spots that are the same way":   plainItem(lookAt(vec(0, 0, 1), vec(0, 0, 2))),
		"too many spots":                plainItem(lookAt(manySpots(7)...)),
		"a spot that is not wide":       plainItem(lookAt(vec(0, 0, 1801))),
		"a frame of no pixels":          plainItem(frameAt(frameOf(0, 0, ""), 0, 1)),
		"a frame of a Level too many":   plainItem(frameAt(fourStars(), 256, 6)),
		"a frame without a Focal":       plainItem(frameAt(fourStars(), 5, 0)),
		"a command with one byte more":  plainText(plainSeal("\x02\x00")),
		"a command with one more ahead": plainText("\x00" + plainSeal("\x02")),
		"a seal with one byte more":     plainText(plainSeal("\x02") + "\x00"),
	}
	return out
}

// What is none, or not right, in the midst: all ahead of it is told, and
// nothing behind it.
func TestLinkUpToWhatIsNone(t *testing.T) {
	desk, quarter := impl.DeskSky(), turn(1, 0, 0, 1)
	ahead := []impl.Command{lookAt(spotsBy(desk, quarter, 1, 2, 3)...), gyroBy(quarter), lookAt(), frameAt(halfTurned(), 5, 6)}
	for what, item := range noItems() {
		for n := range len(ahead) + 1 {
			for _, from := range oneOfEach(desk, quarter, 7) {
				want := plainLink(from.tracker, ahead[:n])
				checkInt(t, "so many are told", int64(len(want.Told)), int64(n))
				row := plainRow(ahead[:n]...) + item
				checkLink(t, what, impl.Link(from.tracker, row), want)
				checkLink(t, what+", and a command", impl.Link(from.tracker, row+plainItem(resetIt())), want)
			}
		}
	}
}

// A row that is cut off tells of those commands that are whole.
func TestLinkOfWhatIsCutOff(t *testing.T) {
	desk, quarter := impl.DeskSky(), turn(1, 0, 0, 1)
	commands := []impl.Command{lookAt(spotsBy(desk, quarter, 1, 2, 3)...), resetIt(), lookAt(), frameAt(evenFrame(3, 3, 7), 5, 6), gyroBy(quarter)}
	tracker, row := lostOne(desk, 1, 0), plainRow(commands...)
	for cut := range len(row) + 1 {
		whole := 0
		for whole < len(commands) && len(plainRow(commands[:whole+1]...)) <= cut {
			whole++
		}
		checkLink(t, fmt.Sprint("cut off at ", cut), impl.Link(tracker, row[:cut]), plainLink(tracker, commands[:whole]))
	}
	// With one byte turned it is gone on up to the command that it is in.
	for i := range len(row) {
		turned := []byte(row)
		turned[i] ^= 1
		whole := 0
		for len(plainRow(commands[:whole+1]...)) <= i {
			whole++
		}
		checkLink(t, fmt.Sprint("turned at ", i), impl.Link(tracker, string(turned)), plainLink(tracker, commands[:whole]))
	}
}

// A command whose Obey tells a code ends the row, whatever is behind it.
func TestLinkUpToACode(t *testing.T) {
	desk, quarter := impl.DeskSky(), turn(1, 0, 0, 1)
	three := lookAt(spotsBy(desk, quarter, 1, 2, 3)...)
	turnOn, reset, nothing, dark := gyroBy(quarter), resetIt(), lookAt(), frameAt(evenFrame(2, 2, 0), 0, 1)
	for _, c := range []struct {
		what     string
		commands []impl.Command
		frames   int64
		told     int
	}{
		{"at once", []impl.Command{three, turnOn}, 1000000, 0},
		{"a frame at once", []impl.Command{dark, turnOn}, 1000000, 0},
		{"behind one", []impl.Command{three, nothing, reset}, 999999, 1},
		{"a frame behind one", []impl.Command{three, dark, reset}, 999999, 1},
		{"behind what is no look", []impl.Command{reset, turnOn, nothing, turnOn}, 1000000, 2},
		{"behind many", []impl.Command{three, turnOn, nothing, dark, turnOn, three, turnOn, reset}, 999997, 5},
		{"never", []impl.Command{three, turnOn, nothing, dark, turnOn}, 999997, 5},
		{"never, without a look", []impl.Command{turnOn, reset, turnOn}, 1000000, 3},
	} {
		for _, from := range oneOfEach(desk, quarter, c.frames) {
			want := plainLink(from.tracker, c.commands)
			checkInt(t, c.what, int64(len(want.Told)), int64(c.told))
			checkInt(t, c.what, want.At, int64(len(plainRow(c.commands[:c.told]...))))
			checkLink(t, from.what+", "+c.what, impl.Link(from.tracker, plainRow(c.commands...)), want)
		}
	}
}

func TestLinkRefusals(t *testing.T) {
	form, size := impl.LinkOut{Code: impl.ErrForm}, impl.LinkOut{Code: impl.ErrSize}
	row := plainRow(resetIt(), lookAt())
	for _, w := range wrongTrackers() {
		for _, text := range []string{"", row, "zz", row + "zz", someBytes(8000)} {
			checkLink(t, w.what, impl.Link(w.tracker, text), form)
		}
		checkLink(t, w.what+", one more than MaxBytes", impl.Link(w.tracker, someBytes(8001)), size)
	}
	tracker := trackOne(impl.DeskSky(), 2, turn(1, 0, 0, 1), 7)
	// 40 greatest frames, and what fills the row up to MaxBytes.
	frame := frameAt(evenFrame(16, 12, 9), 9, 40)
	commands := []impl.Command{resetIt()}
	for len(plainRow(commands...))+len(plainItem(frame)) <= 8000 {
		commands = append(commands, frame)
	}
	long := plainRow(commands...)
	long += strings.Repeat("\x80", 8000-len(long))
	checkLink(t, "MaxBytes", impl.Link(tracker, long), plainLink(tracker, commands))
	checkLink(t, "one more than MaxBytes", impl.Link(tracker, long+"\x80"), size)
	checkLink(t, "many more than MaxBytes", impl.Link(tracker, long+long), size)
	// Of a row of MaxBytes all may be commands.
	full := slices.Repeat([]impl.Command{lookAt(manySpots(6)...)}, 320)
	checkInt(t, "a row of MaxBytes", int64(len(plainRow(full...))), 8000)
	got := impl.Link(tracker, plainRow(full...))
	checkInt(t, "Told of a row of MaxBytes", int64(len(got.Told)), 320)
	checkInt(t, "At of a row of MaxBytes", got.At, 8000)
}

// askLink asks all that takes a command, a tracker or a row.
func askLink(tracker impl.Tracker, c impl.Command, text string) string {
	out := fmt.Sprintf("%v %q %+v ", impl.CommandRight(c), impl.CommandBytes(c), impl.CommandRead(text))
	return out + fmt.Sprintf("%+v %q %+v", impl.Obey(tracker, c), impl.Tell(tracker), impl.Link(tracker, text))
}

// What is handed in stays as it is, also behind its end, up to what it may
// grow to, and the same is answered again.
func TestLinkArgumentsStay(t *testing.T) {
	source := rand.New(rand.NewPCG(8, 4))
	q := turn(2, 0, 1, -1)
	for range 100 {
		sky := someSky(source, source.IntN(13))
		spots := someSpots(source, sky, q, 6)
		wasSky, wasSpots := slices.Clone(sky), slices.Clone(spots)
		n, m := source.IntN(len(sky)+1), source.IntN(len(spots)+1)
		c := lookAt(spots[:m]...)
		text := plainRow(c, gyroBy(q), lookAt(), resetIt())
		for _, from := range oneOfEach(sky[:n], q, source.Int64N(1000001)) {
			first := askLink(from.tracker, c, text)
			checkStars(t, "the sky that was handed in", sky, wasSky)
			checkSpots(t, "the spots that were handed in", spots, wasSpots)
			again := from.tracker
			again.Sky = slices.Clone(sky[:n])
			if got := askLink(again, lookAt(slices.Clone(spots[:m])...), strings.Clone(text)); got != first {
				t.Errorf("asked of a copy: got %s, want %s", got, first)
			}
		}
	}
	for _, c := range append(wrongCommands(), oneOfEachKind()...) {
		was := c.command
		was.Spots = slices.Clone(c.command.Spots)
		tracker := lostOne(impl.DeskSky(), 1, 0)
		first := askLink(tracker, c.command, plainItem(c.command))
		if !sameCommand(c.command, was) {
			t.Errorf("%s: is changed", c.what)
		}
		if again := askLink(tracker, was, plainItem(was)); again != first {
			t.Errorf("%s: asked again: got %s, want %s", c.what, again, first)
		}
	}
}

// A command that is read, and its Pixels, are in memory of their own.
func TestCommandAnswersAreNewMemory(t *testing.T) {
	spots := manySpots(6)
	bytes := impl.CommandBytes(lookAt(spots...))
	first, other := impl.CommandRead(bytes).Command.Spots, impl.CommandRead(bytes).Command.Spots
	clear(first[:cap(first)])
	checkSpots(t, "another answer", other, manySpots(6))
	checkSpots(t, "what was handed in", spots, manySpots(6))
	checkSpots(t, "asked again", impl.CommandRead(bytes).Command.Spots, manySpots(6))
	f := frameAt(frameOf(16, 12, someBytes(192)), 5, 6)
	bytes = impl.CommandBytes(f)
	if shares(bytes, f.Frame.Pixels) || shares(f.Frame.Pixels, bytes) {
		t.Error("CommandBytes shares the Pixels that were handed in")
	}
	pixels := impl.CommandRead(bytes).Command.Frame.Pixels
	checkBytes(t, "Pixels", pixels, someBytes(192))
	if shares(bytes, pixels) || shares(f.Frame.Pixels, pixels) {
		t.Error("CommandRead hands out a piece of its argument")
	}
}

// linksOf are all trackers that are told of one list.
func linksOf(sky []impl.Star, q impl.Turn) []impl.Tracker {
	var out []impl.Tracker
	for _, from := range oneOfEach(sky, q, 7) {
		for _, c := range oneOfEachKind() {
			out = append(out, impl.Obey(from.tracker, c.command).Tracker, impl.Link(from.tracker, plainItem(c.command)).Tracker)
		}
		out = append(out, impl.Link(from.tracker, "").Tracker, impl.Link(from.tracker, "zz").Tracker)
		out = append(out, impl.Link(from.tracker, plainRow(resetIt(), lookAt(), gyroBy(q))+"zz").Tracker)
	}
	return append(out, impl.Link(lostOne(sky, 1, 1000000), plainRow(lookAt())).Tracker)
}

// An answer that is changed changes neither what was handed in nor another
// answer; nor does a change of what was handed in change an answer.
func TestLinkAnswersAreNewMemory(t *testing.T) {
	q := turn(0, 0, 0, 1)
	for _, length := range []int{1, 6} {
		whole := impl.DeskSky()
		sky := whole[:length]
		answers, others := linksOf(sky, q), linksOf(sky, q)
		for i, a := range answers {
			checkStars(t, fmt.Sprint("answer ", i), a.Sky, impl.DeskSky()[:length])
			clear(a.Sky[:cap(a.Sky)])
			checkStars(t, "the sky, behind a change of an answer", whole, impl.DeskSky())
			for j, b := range slices.Concat(answers[i+1:], others) {
				checkStars(t, fmt.Sprint("another answer, ", j), b.Sky, impl.DeskSky()[:length])
			}
		}
		clear(whole)
		for _, b := range others {
			checkStars(t, "an answer, behind a change of what was handed in", b.Sky, impl.DeskSky()[:length])
		}
	}
	tracker, row := lostOne(impl.DeskSky(), 1, 0), plainRow(lookAt(), resetIt(), lookAt())
	first, other := impl.Link(tracker, row), impl.Link(tracker, row)
	want := plainLink(tracker, []impl.Command{lookAt(), resetIt(), lookAt()})
	clear(first.Told[:cap(first.Told)])
	checkLink(t, "another answer, behind a change of what was told", other, want)
	checkLink(t, "asked again", impl.Link(tracker, row), want)
}
