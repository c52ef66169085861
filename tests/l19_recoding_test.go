package tests

import (
	"bytes"
	"math"
	"runtime"
	"slices"
	"strconv"
	"sync"
	"testing"
	"time"

	"loop.example/g00139/impl"
)

// manner is in which way a stream is to be written.
type manner struct{ mode, kind, restart int }

func (m manner) String() string {
	return "mode " + strconv.Itoa(m.mode) + ", kind " + strconv.Itoa(m.kind) + ", restart " + strconv.Itoa(m.restart)
}

func (m manner) recode(b []byte) ([]byte, impl.Fault) {
	return impl.Recode(b, m.mode, m.kind, m.restart)
}

func mannerRule(m manner) bool {
	return between(0, 1, m.mode) && between(0, 2, m.kind) && between(0, 255, m.restart)
}

// manners are all modes and kinds with these restarts.
func manners(restarts ...int) []manner {
	var list []manner
	for mode := range 2 {
		for kind := range 3 {
			for _, restart := range restarts {
				list = append(list, manner{mode, kind, restart})
			}
		}
	}
	return list
}

func drawnManner(d *dice) manner {
	return manner{d.below(2), d.below(3), []int{0, 1, 2, 3, 7, 255}[d.below(6)]}
}

// inManner is a stream that is to be written in this manner.
func inManner(s impl.Stream, m manner) impl.Stream {
	s.Mode, s.Frame.Restart = m.mode, m.restart
	s.Script = impl.ScriptFor(s.Frame, m.kind)
	return s
}

// ruleRecode is Recode by the chapter's words, made of the functions of the
// chapters before.
func ruleRecode(b []byte, m manner) ([]byte, impl.Fault) {
	s, fault := impl.ReadStream(b)
	if fault.Code != 0 {
		return nil, fault
	}
	room := impl.Fault{Code: 21}
	if !mannerRule(m) {
		return nil, room
	}
	if out := impl.WriteStream(inManner(s, m)); len(out) > 0 {
		return out, impl.Fault{}
	}
	return nil, room
}

// ruleSame is SameStream by the chapter's words.
func ruleSame(a, b impl.Stream) bool {
	x, y := a.Frame, b.Frame
	return streamRule(a) && streamRule(b) &&
		x.Prec == y.Prec && x.Width == y.Width && x.Height == y.Height && slices.Equal(x.Comps, y.Comps) &&
		sameBlocks(a.Tables, b.Tables) && sameCoefs(a.Coefs, b.Coefs) && bytes.Equal(a.Note, b.Note)
}

// checkRecode holds Recode against the rule, and answers the bytes and the
// fault.
func checkRecode(t *testing.T, what string, b []byte, m manner) ([]byte, impl.Fault) {
	t.Helper()
	want, fault := ruleRecode(b, m)
	got, f := m.recode(b)
	if f != fault || !bytes.Equal(got, want) {
		t.Fatalf("%s, %v: %d bytes, fault %v, and not %d, %v", what, m, len(got), f, len(want), fault)
	}
	if (len(got) == 0) != (f.Code != 0) {
		t.Fatalf("%s, %v: %d bytes beside the fault %v", what, m, len(got), f)
	}
	return got, f
}

// checkRefusedRecode asks for a fault, and for no bytes.
func checkRefusedRecode(t *testing.T, what string, b []byte, m manner, code, at int) {
	t.Helper()
	if got, f := checkRecode(t, what, b, m); f != (impl.Fault{Code: code, At: at}) || len(got) != 0 {
		t.Fatalf("%s, %v: %d bytes, fault %v, and %d at %d is asked for", what, m, len(got), f, code, at)
	}
}

// checkSame asks for what SameStream answers, both ways round, and holds it
// against the rule.
func checkSame(t *testing.T, what string, a, b impl.Stream, want bool) {
	t.Helper()
	if ruleSame(a, b) != want {
		t.Fatalf("%s: by the chapter's words this is not %v", what, want)
	}
	if impl.SameStream(a, b) != want || impl.SameStream(b, a) != want {
		t.Fatalf("%s: SameStream is %v, and %v the other way round", what, impl.SameStream(a, b), impl.SameStream(b, a))
	}
}

// marksOf are the Marks of the segments of bytes.
func marksOf(t *testing.T, b []byte) []int {
	t.Helper()
	segs, f := impl.ReadSegs(b)
	if f.Code != 0 {
		t.Fatal(f)
	}
	var marks []int
	for _, s := range segs {
		marks = append(marks, s.Mark)
	}
	return marks
}

// ruleStreamMarks are those of a stream: the frame, four tables, a note, and of
// each scan its part and the run data, with the restarts that part them.
func ruleStreamMarks(s impl.Stream) []int {
	marks := []int{1, 2, 2, 2, 2}
	if len(s.Note) > 0 {
		marks = append(marks, 3)
	}
	for _, scan := range s.Script {
		for i := range ruleStretches(s.Frame, scan.Comps) {
			mark := 5
			if i > 0 {
				mark = 240 + (i-1)%8
			}
			marks = append(marks, mark, 0)
		}
	}
	return marks
}

// checkAnew asks for promise 19 of a stream and the bytes that tell it, which
// have to be written in this manner: nothing is lost, it has what was asked for,
// and looks the same. It answers the bytes.
func checkAnew(t *testing.T, what string, s impl.Stream, b []byte, m manner) []byte {
	t.Helper()
	out, f := checkRecode(t, what, b, m)
	if f != (impl.Fault{}) {
		t.Fatalf("%s, %v, %v: fault %v", what, s.Frame, m, f)
	}
	x, f := impl.ReadStream(out)
	if f != (impl.Fault{}) {
		t.Fatalf("%s, %v, %v: what was written is not read: %v", what, s.Frame, m, f)
	}
	checkSame(t, what, s, x, true)
	if x.Mode != m.mode || x.Frame.Restart != m.restart || !sameScript(x.Script, ruleScriptFor(s.Frame, m.kind)) {
		t.Fatalf("%s, %v, %v: told with mode %d, restart %d, %v", what, s.Frame, m, x.Mode, x.Frame.Restart, x.Script)
	}
	if !sameStream(x, inManner(s, m)) {
		t.Fatalf("%s, %v, %v: another stream", what, s.Frame, m)
	}
	if marks := marksOf(t, out); !slices.Equal(marks, ruleStreamMarks(x)) {
		t.Fatalf("%s, %v, %v: segments %v", what, s.Frame, m, marks)
	}
	if !samePicture(impl.PictureOf(x), impl.PictureOf(s)) {
		t.Fatalf("%s, %v, %v: another picture", what, s.Frame, m)
	}
	return out
}

// checkMuch is checkAnew, or, where there would be too many segments, asks for
// ReRoom.
func checkMuch(t *testing.T, what string, s impl.Stream, b []byte, m manner) []byte {
	t.Helper()
	if len(ruleStreamMarks(inManner(s, m))) > impl.MaxSegs {
		checkRefusedRecode(t, what, b, m, 21, 0)
		return nil
	}
	return checkAnew(t, what, s, b, m)
}

func TestRecodingConstant(t *testing.T) {
	if impl.ReRoom != 21 {
		t.Fatal(impl.ReRoom)
	}
}

// handStream has two blocks side by side, and a restart between them.
func handStream() impl.Stream {
	f := impl.Frame{Prec: 12, Width: 16, Height: 8, Restart: 1, Comps: []impl.Comp{{Id: 7, H: 1, V: 1, Q: 2}}}
	s := impl.Stream{Frame: f, Coefs: impl.EmptyCoefs(f), Mode: 1, Script: impl.ScriptFor(f, 0), Note: []byte{255, 254, 0}}
	for _, step := range []int{1, 2, 3, 4} {
		s.Tables = append(s.Tables, flat(step))
	}
	s.Coefs.Planes[0][0][0] = 3
	return s
}

// handHead are the bytes of handStream ahead of its scans.
func handHead(restart byte) []byte {
	b := []byte{84, 83, 255, 1, 0, 8, 12, 15, 7, restart, 1, 7, 17, 2}
	for number := range 4 {
		b = append(b, tableBytes(byte(number), func(int) int { return number + 1 })...)
	}
	return append(b, 255, 3, 0, 3, 255, 254, 0)
}

// binRun is stuffed run data of numbers, each with its base.
func binRun(pairs ...[2]int) []byte {
	var bins []impl.Bin
	for _, x := range pairs {
		bins = append(bins, impl.BinsOf(x[0], x[1])...)
	}
	return impl.Stuff(impl.EncodeBins(bins))
}

func TestRecodeByHand(t *testing.T) {
	s := handStream()
	end := []byte{255, 254}
	written := slices.Concat(handHead(1),
		[]byte{255, 5, 0, 7, 1, 1, 0, 0, 63, 0, 0}, binRun([2]int{3, 0}, [2]int{0, 20}), []byte{255, 240}, binRun([2]int{0, 0}, [2]int{0, 20}), end)
	if b := impl.WriteStream(s); !bytes.Equal(b, written) {
		t.Fatal(b)
	}
	none := []byte{255, 5, 0, 7, 1, 1, 0, 1, 63, 2, 1}
	for m, want := range map[manner][]byte{
		{1, 0, 1}: written,
		{1, 1, 1}: written,
		// Without the restart the second block is told as it differs from the first.
		{1, 0, 0}: slices.Concat(handHead(0),
			[]byte{255, 5, 0, 7, 1, 1, 0, 0, 63, 0, 0}, binRun([2]int{3, 0}, [2]int{0, 20}, [2]int{-3, 0}, [2]int{0, 20}), end),
		{1, 0, 2}: slices.Concat(handHead(2),
			[]byte{255, 5, 0, 7, 1, 1, 0, 0, 63, 0, 0}, binRun([2]int{3, 0}, [2]int{0, 20}, [2]int{-3, 0}, [2]int{0, 20}), end),
		// In passes: a half of 3, cut; nothing of the other waves; then its last bit.
		{1, 2, 0}: slices.Concat(handHead(0),
			[]byte{255, 5, 0, 7, 1, 1, 0, 0, 0, 0, 1}, binRun([2]int{1, 0}, [2]int{0, 20}, [2]int{-1, 0}, [2]int{0, 20}),
			[]byte{255, 5, 0, 7, 1, 1, 0, 1, 5, 0, 2}, binRun([2]int{0, 20}, [2]int{0, 20}),
			[]byte{255, 5, 0, 7, 1, 1, 0, 6, 63, 0, 2}, binRun([2]int{0, 20}, [2]int{0, 20}),
			none, binRun([2]int{0, 20}, [2]int{0, 20}),
			[]byte{255, 5, 0, 7, 1, 1, 0, 0, 0, 1, 0}, binRun([2]int{1, 20}, [2]int{1, 40}, [2]int{0, 20}),
			[]byte{255, 5, 0, 7, 1, 1, 0, 1, 63, 1, 0}, binRun([2]int{0, 20}, [2]int{0, 20}), end),
		// With codes: the classes 2 and 2, bits 11 and 00; no number but these.
		{0, 0, 0}: slices.Concat(handHead(0), []byte{255, 5, 2, 7, 0, 1, 0, 0, 63, 0, 0},
			bytesOf(lensOf(map[int]int{2: 1}), lensOf(map[int]int{0: 1})), bytesOfText("0"+"11"+"0"+"0"+"00"+"0"), end),
		// In two stretches: the classes 2 and 0.
		{0, 1, 1}: slices.Concat(handHead(1), []byte{255, 5, 2, 7, 0, 1, 0, 0, 63, 0, 0},
			bytesOf(lensOf(map[int]int{0: 1, 2: 1}), lensOf(map[int]int{0: 1})), bytesOfText("1"+"11"+"0"), []byte{255, 240}, bytesOfText("0"+"0"), end),
	} {
		if b := checkAnew(t, "by hand", s, written, m); !bytes.Equal(b, want) {
			t.Errorf("%v: %v, and not %v", m, b[600:], want[600:])
		}
	}
}

// Promise 19 of drawn streams of one to four components, written in both
// modes, with the three scripts and with drawn ones, with restarts and without,
// and notes.
func TestStreamsWrittenAnew(t *testing.T) {
	d := dice(1900)
	written := 0
	for comps := 1; comps <= 4; comps++ {
		list := sharesOf(comps)
		for mode := range 2 {
			for kind := range 4 {
				for i, restart := range []int{0, 1, 3, 255} {
					s := drawnStream(&d, list[d.below(len(list))], mode, kind, restart, []int{0, 1, 1000, 7}[i])
					b := impl.WriteStream(s)
					for _, m := range manners(0, 1, 3, 255) {
						if out := checkMuch(t, "drawn", s, b, m); len(out) > 0 {
							written++
							checkBackAgain(t, s, b, out, kind)
						}
					}
				}
			}
		}
	}
	if written < 2500 {
		t.Fatal(written)
	}
}

// checkBackAgain asks that a stream that was written anew is the same bytes
// when it is written as it was ahead; a script that no kind makes cannot be.
func checkBackAgain(t *testing.T, s impl.Stream, b, out []byte, kind int) {
	t.Helper()
	m := manner{s.Mode, kind, s.Frame.Restart}
	if kind == 3 {
		m.kind = 0
		b, _ = m.recode(b)
	}
	if again, f := m.recode(out); f.Code != 0 && len(b) > 0 || !bytes.Equal(again, b) {
		t.Fatalf("%v, %v: back again it is other bytes: %d, and not %d, fault %v", s.Frame, m, len(again), len(b), f)
	}
}

// Greater frames, which may have too many segments in another manner.
func TestGreaterStreamsWrittenAnew(t *testing.T) {
	d := dice(1919)
	written, many := 0, 0
	for range 60 {
		shares := allShares()
		f := shared(20+d.below(70), 20+d.below(70), shares[d.below(len(shares))]...)
		s := plainStream(f, d.below(3))
		s.Mode, s.Coefs = d.below(2), sparseCoefs(&d, f, 6, 20)
		b := impl.WriteStream(s)
		for range 4 {
			m := manner{d.below(2), d.below(3), 1 + d.below(5)}
			if len(checkMuch(t, "greater", s, b, m)) > 0 {
				written++
			} else {
				many++
			}
		}
	}
	if written < 100 || many < 20 {
		t.Fatal(written, many)
	}
}

// However many Recodes lie between, the bytes are those of the last one alone.
func TestStreamsWrittenAnewManyTimes(t *testing.T) {
	d := dice(1901)
	for range 60 {
		s := anyStream(&d, d.below(4))
		first := impl.WriteStream(s)
		b, last, anew := first, manner{}, false
		for range 12 {
			m := drawnManner(&d)
			want, fault := m.recode(first)
			out, f := checkRecode(t, "many times", b, m)
			if f != fault || !bytes.Equal(out, want) {
				t.Fatalf("%v, %v: %d bytes, and not %d as from the first ones", s.Frame, m, len(out), len(want))
			}
			if f.Code == 0 {
				b, last, anew = out, m, true
			}
			// The same again changes nothing.
			if same, f := last.recode(b); anew && (f.Code != 0 || !bytes.Equal(same, b)) {
				t.Fatalf("%v, %v: the same again is other bytes", s.Frame, last)
			}
		}
		x, _ := impl.ReadStream(b)
		checkSame(t, "many times", s, x, true)
	}
}

// The same by the chapters' words alone, made anew in the tests from the first
// bit on.
func TestRecodeByAllRules(t *testing.T) {
	d := dice(1902)
	for range 40 {
		s := anyStream(&d, d.below(3))
		b, m := ruleStream(s), drawnManner(&d)
		want := ruleStream(inManner(s, m))
		got, f := m.recode(b)
		if !bytes.Equal(got, want) || (f == impl.Fault{Code: 21}) != (len(want) == 0) {
			t.Fatalf("%v, %v: %d bytes, fault %v, and not %d", s.Frame, m, len(got), f, len(want))
		}
	}
}

// Frames with hidden blocks, and each number of a frame.
func TestStreamsOfAnyFrameWrittenAnew(t *testing.T) {
	d := dice(1903)
	for _, list := range []map[string]impl.Frame{fewBlocks(), goodFrames()} {
		for what, f := range list {
			f.Restart = 0
			s := plainStream(f, d.below(3))
			s.Mode, s.Coefs, s.Note = d.below(2), sparseCoefs(&d, f, 4, 30), bytesThrown(&d, d.below(3))
			b := impl.WriteStream(s)
			for _, m := range manners(0, 1+d.below(255)) {
				checkMuch(t, what, s, b, m)
			}
		}
	}
}

// Tables at their limits, and each step of each table.
func TestStreamsOfAnyTablesWrittenAnew(t *testing.T) {
	s := handStream()
	for i, q := range tablesToTry() {
		x := altered(s, func(s *impl.Stream) { s.Tables[i%4] = q })
		checkAnew(t, "table", x, impl.WriteStream(x), manner{i % 2, i % 3, i % 4})
	}
	for k := range 64 {
		x := altered(s, func(s *impl.Stream) { s.Tables[k%4][k] = impl.MaxStep })
		checkAnew(t, "step", x, impl.WriteStream(x), manner{k % 2, k % 3, k % 4})
	}
}

func TestStreamsOfAnyNoteWrittenAnew(t *testing.T) {
	for i, n := range []int{0, 1, 2, 255, 256, 999, 1000} {
		for _, x := range []byte{0, 84, 254, 255} {
			s := handStream()
			s.Note = bytes.Repeat([]byte{x}, n)
			checkAnew(t, "note", s, impl.WriteStream(s), manner{i % 2, i % 3, i % 4})
		}
	}
}

// bitByBit is a script that no kind makes: all waves, from the highest bit on.
func bitByBit() []impl.Scan {
	script := []impl.Scan{firstScan(0, 63, impl.MaxLow, 0)}
	for low := impl.MaxLow - 1; low >= 0; low-- {
		script = append(script, fineScan(0, 63, low, 0))
	}
	return script
}

// Numbers at the limits, beside one another: their differences are at
// 2 * MaxLevel on both sides, and where tables are great the waves that come of
// them are brought back to 32767 and -32767.
func TestStreamsOfGreatCoefsWrittenAnew(t *testing.T) {
	s := plainStream(rowsOf(4, 2, 0), 0)
	top, low := flat(impl.MaxLevel), flat(-impl.MaxLevel)
	s.Coefs.Planes[0] = [][]int{top, low, top, flat(0), low, cycled(64, impl.MaxLevel, 0, -1, 5), low, cycled(64, 0, 0, 0, -impl.MaxLevel)}
	for _, step := range []int{1, 2, 3, impl.MaxStep} {
		s.Tables[0] = flat(step)
		if waves := impl.Dequantize(low, s.Tables[0]); (waves[0] == -32767) != (step > 2) {
			t.Fatal(step, waves[0])
		}
		for _, script := range [][]impl.Scan{impl.ScriptFor(s.Frame, 0), impl.ScriptFor(s.Frame, 2), bitByBit(), fullScript(40)} {
			for mode := range 2 {
				s.Script, s.Mode = script, mode
				b := impl.WriteStream(s)
				for _, m := range manners(0, 1, 3) {
					checkAnew(t, "great", s, b, m)
				}
			}
		}
	}
}

// No number of a stream is greater than MaxLevel, be it told as one whole or in
// passes: such bytes are not read, and so not written anew.
func TestNumbersPastMaxLevelAreNotWrittenAnew(t *testing.T) {
	s := plainStream(rowsOf(1, 1, 0), 0)
	for _, n := range []int{16384, -16384, 32766, 32767, -32767} {
		told := binned(s.Script[0], slices.Concat(impl.BinsOf(n, 0), impl.BinsOf(0, 20)))
		b := segsText(append(headParts(s), told...))
		for _, m := range manners(0, 1) {
			checkRefusedRecode(t, "great", b, m, impl.StScan, 5)
		}
		told = coded(s.Script[0], map[int]int{impl.ClassOf(n): 1}, map[int]int{0: 1}, "0"+bitText([]impl.Field{{Len: 15, Val: impl.BitsOf(n)}})+"0")
		checkRefusedRecode(t, "great, with codes", segsText(append(headParts(s), told...)), manner{}, impl.StScan, 5)
		x := altered(s, func(s *impl.Stream) { s.Coefs.Planes[0][0][0] = n })
		checkSame(t, "great", x, x, false)
		checkSame(t, "great", x, s, false)
	}
}

// scriptsToTry are scripts of a frame of two components that no kind makes.
func scriptsToTry() map[string][]impl.Scan {
	return map[string][]impl.Scan{
		"the second ahead":     {firstScan(0, 63, 0, 1), firstScan(0, 63, 0, 0)},
		"from behind":          {firstScan(32, 63, 0, 0, 1), firstScan(1, 31, 0, 0, 1), firstScan(0, 0, 0, 0, 1)},
		"one in three":         {firstScan(0, 63, 2, 0), fineScan(0, 63, 1, 0), firstScan(0, 63, 0, 1), fineScan(0, 63, 0, 0)},
		"a wave bit by bit":    {firstScan(7, 7, 2, 0, 1), firstScan(8, 63, 0, 0, 1), fineScan(7, 7, 1, 0, 1), firstScan(0, 6, 0, 0, 1), fineScan(7, 7, 0, 0, 1)},
		"forty":                append([]impl.Scan{firstScan(0, 63, 0, 1)}, fullScript(39)...),
		"both in two":          {firstScan(0, 63, 1, 0, 1), fineScan(0, 63, 0, 0, 1)},
		"a span in the middle": {firstScan(5, 9, 0, 0, 1), firstScan(0, 4, 1, 0, 1), firstScan(10, 63, 0, 0, 1), fineScan(0, 4, 0, 0, 1)},
	}
}

func TestStreamsOfOtherScriptsWrittenAnew(t *testing.T) {
	d := dice(1904)
	f := shared(20, 12, [2]int{2, 1}, [2]int{1, 1})
	for what, script := range scriptsToTry() {
		for mode := range 2 {
			s := impl.Stream{Frame: f, Tables: fourTables(), Coefs: drawnCoefs(&d, f), Mode: mode, Script: script, Note: []byte("x")}
			if !impl.StreamOk(s) {
				t.Fatal(what)
			}
			b := impl.WriteStream(s)
			for _, m := range manners(0, 1, 2) {
				out := checkAnew(t, what, s, b, m)
				if bytes.Equal(out, b) {
					t.Fatal(what, "the same bytes")
				}
			}
		}
	}
}

// What Compress wrote is the same as what it writes with the other options.
func TestPicturesWrittenAnew(t *testing.T) {
	d := dice(1905)
	written := 0
	for range 150 {
		p, o := anyPicture(&d), drawnOptions(&d)
		b := impl.Compress(p, o)
		if len(b) == 0 {
			continue
		}
		m := drawnManner(&d)
		other := o
		other.Mode, other.Kind, other.Restart = m.mode, m.kind, m.restart
		out, f := checkRecode(t, "picture", b, m)
		if !bytes.Equal(out, impl.Compress(p, other)) {
			t.Fatalf("%s, %v: other bytes than Compress makes", pictureShown(p, o), m)
		}
		if f.Code != 0 {
			continue
		}
		written++
		x, _ := impl.Decompress(b)
		if y, f := impl.Decompress(out); f.Code != 0 || !samePicture(x, y) {
			t.Fatalf("%s, %v: another picture, fault %v", pictureShown(p, o), m, f)
		}
	}
	if written < 100 {
		t.Fatal(written)
	}
}

// Bytes with other codes than the best ones, or with more behind what is
// needed, are another stream's bytes no more when they were written anew.
func TestRecodeOfStreamsWrittenInAnotherWay(t *testing.T) {
	s := plainStream(rowsOf(1, 1, 0), 0)
	s.Coefs.Planes[0][0][0] = 5
	worse := coded(s.Script[0], map[int]int{0: 1, 3: 5}, map[int]int{0: 3}, "10000"+"101"+"000")
	worse[1].Data = append(worse[1].Data, 1, 2, 3)
	b, best := segsText(append(headParts(s), worse...)), impl.WriteStream(s)
	if bytes.Equal(b, best) {
		t.Fatal("the same bytes")
	}
	for _, m := range manners(0, 1, 255) {
		if !bytes.Equal(checkAnew(t, "worse", s, b, m), checkAnew(t, "best", s, best, m)) {
			t.Fatal(m)
		}
	}
	if out, _ := (manner{}).recode(b); !bytes.Equal(out, best) {
		t.Fatal(out)
	}
}

// wrongManners are a mode, a kind and a restart that there are not, each by
// itself, and together.
func wrongManners() []manner {
	list := []manner{{-1, -1, -1}, {2, 3, 256}, {-1, 0, 256}, {0, -1, -1}, {2, 3, 0}}
	for _, n := range append(far(), -2, -1, 2, 3, 4, 255, 256) {
		list = append(list, manner{mode: n}, manner{1, 2, 0})
		list[len(list)-1].mode = n
		if n != 2 {
			list = append(list, manner{kind: n}, manner{1, n, 7})
		}
		if n < 0 || n > 255 {
			list = append(list, manner{restart: n}, manner{1, 2, n})
		}
	}
	return list
}

func TestRecodeManners(t *testing.T) {
	s := parted(0)
	s.Script = impl.ScriptFor(s.Frame, 1)
	b := impl.WriteStream(s)
	for mode := -1; mode <= 2; mode++ {
		for kind := -1; kind <= 3; kind++ {
			for _, restart := range []int{-1, 0, 1, 254, 255, 256} {
				m := manner{mode, kind, restart}
				if mannerRule(m) {
					checkAnew(t, "manner", s, b, m)
				} else {
					checkRefusedRecode(t, "manner", b, m, 21, 0)
				}
			}
		}
	}
	for _, m := range wrongManners() {
		if mannerRule(m) {
			t.Fatal(m)
		}
		checkRefusedRecode(t, "wrong", b, m, 21, 0)
	}
}

// The fault of bytes that are not read comes ahead of all that is wrong with
// the manner, and is told at its place.
func TestRecodeTellsFaultsOfBytesFirst(t *testing.T) {
	all := append(wrongManners()[:20], manners(0, 1, 255)...)
	for mode := range 2 {
		s := parted(mode)
		for _, x := range flawsOf(s) {
			b := segsText(x.put(streamParts(s)))
			for _, m := range all {
				checkRefusedRecode(t, x.what, b, m, x.code, x.at)
			}
		}
		b := impl.WriteStream(s)
		for i := 0; i < len(b); i += 97 {
			code, at := impl.SgEnd, i
			if i < 2 {
				code, at = impl.SgBegin, 0
			}
			checkRefusedRecode(t, "cut short", b[:i], all[i%len(all)], code, at)
		}
		for _, m := range all {
			checkRefusedRecode(t, "more behind", slices.Concat(b, []byte{255}), m, impl.SgRest, len(b))
			checkRefusedRecode(t, "without the end", b[:len(b)-1], m, impl.SgEnd, len(b)-1)
		}
	}
	for what, x := range segFaults() {
		for _, m := range all[:4] {
			checkRefusedRecode(t, what, x.b, m, x.code, x.at)
		}
		checkRefusedRecode(t, what, x.b, manner{}, x.code, x.at)
	}
	for _, m := range all {
		checkRefusedRecode(t, "nil", nil, m, impl.SgBegin, 0)
		checkRefusedRecode(t, "empty", []byte{}, m, impl.SgBegin, 0)
		checkRefusedRecode(t, "no segment", stream(), m, impl.StFrame, 0)
		checkRefusedRecode(t, "far too many", make([]byte, impl.MaxBytes+1), m, impl.SgBytes, 0)
	}
}

// checkRoom asks that a stream, written in one manner, is written in the first
// ones, and that there is no room for it in the others, whether it comes in that
// manner or in the last one that there is room for.
func checkRoom(t *testing.T, what string, s impl.Stream, from manner, written, refused []manner) {
	t.Helper()
	b := impl.WriteStream(inManner(s, from))
	if len(b) == 0 {
		t.Fatalf("%s, %v: nothing", what, from)
	}
	out := b
	for _, m := range slices.Concat([]manner{from}, written) {
		out = checkAnew(t, what, s, b, m)
		if again, f := from.recode(out); f.Code != 0 || !bytes.Equal(again, b) {
			t.Fatalf("%s: from %v to %v and back again it is other bytes, fault %v", what, from, m, f)
		}
	}
	for _, m := range refused {
		checkRefusedRecode(t, what, b, m, 21, 0)
		checkRefusedRecode(t, what, out, m, 21, 0)
	}
}

// With the bit coder a stretch has at most MaxBins bins. Each block tells a
// difference too, here always a 0, of one bin.
func TestRecodeOfManyBins(t *testing.T) {
	f := rowsOf(16, 16, 0)
	s := plainStream(f, 0)
	s.Coefs = ofBins(t, f, 200000-256)
	codes, parts := []manner{{0, 1, 0}, {0, 2, 0}, {0, 0, 1 << 6}}, []manner{{1, 0, 255}, {1, 0, 64}, {1, 1, 64}, {1, 2, 0}, {1, 2, 255}}
	checkRoom(t, "200000", s, manner{0, 0, 0}, slices.Concat(codes, parts, []manner{{1, 0, 0}, {1, 1, 0}}), nil)
	s.Coefs = ofBins(t, f, 200001-256)
	checkRoom(t, "200001", s, manner{0, 0, 0}, slices.Concat(codes, parts), []manner{{1, 0, 0}, {1, 1, 0}})
	// Another coder may have written it: it is read, but not written in its own
	// manner.
	whole := inManner(s, manner{1, 0, 0})
	run, _ := ruleEncode(ruleScanBins(whole.Script[0], ruleTold(f, s.Coefs, whole.Script[0])[0]))
	b := segsText(append(headParts(whole), laidSegs(scanPart(whole.Script[0], 1), run)...))
	checkRefusedRecode(t, "its own", b, manner{1, 0, 0}, 21, 0)
	for _, m := range slices.Concat(codes, parts) {
		checkAnew(t, "another coder's", whole, b, m)
	}
}

// Of several components each has few enough bins by itself.
func TestRecodeOfManyBinsTogether(t *testing.T) {
	f := shared(128, 128, [2]int{1, 1}, [2]int{1, 1}, [2]int{1, 1})
	s := plainStream(f, 0)
	for i := range s.Coefs.Planes {
		s.Coefs.Planes[i] = ofBins(t, rowsOf(16, 16, 0), 70000).Planes[0]
	}
	checkRoom(t, "three planes", s, manner{0, 1, 0}, []manner{{1, 1, 0}, {1, 2, 0}, {1, 0, 20}, {0, 0, 64}}, []manner{{1, 0, 0}, {1, 0, 255}})
}

// A scan of all waves has one bit more for each block, for the difference:
// 160000 bits are 20000 bytes.
func TestRecodeOfManyBytesInOneStretch(t *testing.T) {
	s := plainStream(rowsOf(16, 16, 0), 0)
	fillPlane(s.Coefs.Planes[0], 1536)
	parts := []manner{{0, 0, 128}, {0, 1, 255}, {0, 2, 0}, {1, 1, 128}}
	whole := []manner{{0, 0, 0}, {0, 1, 0}}
	checkRoom(t, "20000", s, manner{1, 0, 128}, slices.Concat(parts, whole), []manner{{1, 0, 0}})
	fillPlane(s.Coefs.Planes[0], 1535)
	checkRoom(t, "20001", s, manner{1, 0, 128}, parts, append(whole, manner{1, 0, 0}))
	// Noise is too much for the bit coder too.
	d := dice(1906)
	p := pictureFrom(12, 128, 128, 1, func(_, _, _ int) int { return d.below(4096) })
	noise := impl.StreamFor(p, impl.Options{Quality: 100})
	checkRoom(t, "noise", noise, manner{0, 0, 128}, []manner{{0, 1, 64}, {1, 0, 128}, {1, 1, 128}}, []manner{{0, 0, 0}, {0, 1, 0}, {1, 0, 0}, {1, 1, 0}})
}

// The bytes of three scans, and a note that fills them up to MaxBytes, or one
// byte beyond.
func TestRecodeOfManyBytes(t *testing.T) {
	f := shared(128, 128, [2]int{1, 1}, [2]int{1, 1}, [2]int{1, 1})
	s := plainStream(f, 1)
	for _, plane := range s.Coefs.Planes {
		fillPlane(plane, 7936)
	}
	room := impl.MaxBytes - len(impl.WriteStream(s)) - 4
	if !between(1, 999, room) {
		t.Fatal(room)
	}
	small := []manner{{1, 1, 150}, {1, 0, 40}}
	for _, more := range []int{-1, 0} {
		s.Note = bytes.Repeat([]byte{255}, room+more)
		checkRoom(t, "bytes", s, manner{1, 1, 128}, append(small, manner{0, 1, 0}), []manner{{0, 1, 128}, {0, 1, 255}, {0, 0, 0}})
		if b := impl.WriteStream(s); len(b) != impl.MaxBytes+more {
			t.Fatal(len(b))
		}
	}
	s.Note = append(s.Note, 7)
	checkRoom(t, "a byte too many", s, manner{1, 1, 128}, small, []manner{{0, 1, 0}, {0, 1, 128}, {0, 0, 0}})
}

// 147 stretches and a note make 300 segments, 148 without one 301.
func TestRecodeOfManySegments(t *testing.T) {
	d := dice(1907)
	most := plainStream(rowsOf(21, 7, 0), 0)
	over := plainStream(shared(176, 32, [2]int{3, 1}, [2]int{2, 1}), 0)
	most.Coefs, over.Coefs = sparseCoefs(&d, most.Frame, 2, 3), sparseCoefs(&d, over.Frame, 2, 3)
	few := []manner{{0, 0, 0}, {1, 2, 0}, {0, 0, 2}, {1, 1, 2}, {1, 0, 255}}
	for _, note := range []int{0, 1, 1000} {
		most.Note, over.Note = sevens(note), sevens(note)
		checkRoom(t, "299 or 300", most, manner{1, 0, 0}, append(few, manner{0, 0, 1}, manner{1, 1, 1}), []manner{{0, 2, 1}, {1, 2, 2}})
		checkRoom(t, "301 or 302", over, manner{0, 2, 0}, few, []manner{{0, 1, 1}, {1, 1, 1}, {1, 2, 1}})
		for s, n := range map[int]int{1: len(ruleStreamMarks(inManner(most, manner{0, 0, 1}))), 2: len(ruleStreamMarks(inManner(over, manner{0, 1, 1})))} {
			if want := 297 + 2*s + min(note, 1); n != want {
				t.Fatal(s, n, want)
			}
		}
	}
}

// Frames whose units are fewer than the restart, as many, one more, and many
// times as many: the marks that part the stretches, and where they stand.
func TestRestartsThatPart(t *testing.T) {
	d := dice(1908)
	for _, x := range []struct{ wide, high, restart, stretches int }{
		{1, 1, 0, 1}, {1, 1, 1, 1}, {2, 1, 1, 2}, {1, 1, 2, 1}, {2, 1, 2, 1}, {3, 1, 2, 2}, {5, 1, 6, 1}, {2, 3, 6, 1}, {7, 1, 6, 2},
		{3, 3, 1, 9}, {2, 5, 1, 10}, {17, 1, 1, 17}, {6, 3, 1, 18}, {6, 2, 6, 2}, {13, 1, 6, 3}, {11, 1, 6, 2}, {11, 23, 255, 1}, {17, 15, 255, 1}, {16, 16, 255, 2}, {11, 23, 253, 1}, {11, 23, 252, 2}, {16, 16, 0, 1},
	} {
		f := rowsOf(x.wide, x.high, 0)
		if n := impl.UnitsOf(f, []int{0}); n != x.wide*x.high {
			t.Fatal(n)
		}
		s := plainStream(f, 0)
		s.Coefs = sparseCoefs(&d, f, 5, 9)
		b := impl.WriteStream(s)
		for mode := range 2 {
			out := checkAnew(t, "restarts", s, b, manner{mode, 0, x.restart})
			want := []int{1, 2, 2, 2, 2, 5, 0}
			for i := 1; i < x.stretches; i++ {
				want = append(want, []int{247, 240, 241, 242, 243, 244, 245, 246}[i%8], 0)
			}
			if got := marksOf(t, out); !slices.Equal(got, want) {
				t.Fatalf("%v: segments %v, and not %v", x, got, want)
			}
			if out[9] != byte(x.restart) {
				t.Fatal(x, out[:12])
			}
			// Dropped again, and another one.
			if back, _ := impl.Recode(out, 0, 0, 0); !bytes.Equal(back, b) {
				t.Fatal(x, "dropped")
			}
			for _, restart := range []int{max(1, x.restart-1), min(255, x.restart+1), max(1, x.wide*x.high%255)} {
				m := manner{1 - mode, 2, restart}
				checkMuch(t, "another", s, out, m)
			}
		}
	}
}

// Units of several components together: a scan of one of them has other units.
func TestRestartsOfSeveralComponents(t *testing.T) {
	d := dice(1909)
	f := shared(40, 40, [2]int{2, 2}, [2]int{1, 1}, [2]int{1, 2})
	s := plainStream(f, 0)
	s.Coefs = sparseCoefs(&d, f, 20, 30)
	b := impl.WriteStream(s)
	for _, restart := range []int{0, 1, 2, 8, 9, 10, 24, 25, 26, 255} {
		for _, m := range manners(restart) {
			out := checkMuch(t, "several", s, b, m)
			if m.kind > 0 || len(out) == 0 {
				continue
			}
			stretches := 1
			if restart > 0 {
				stretches = leastTimes(9, restart)
			}
			if n := len(marksOf(t, out)); n != 5+2*stretches {
				t.Fatal(m, n)
			}
		}
	}
	// Of each component alone: 25 blocks, 9 and 15.
	for restart, stretches := range map[int]int{0: 3, 1: 49, 8: 8, 9: 6, 10: 6, 24: 4, 25: 3, 26: 3} {
		out := checkAnew(t, "alone", s, b, manner{1, 1, restart})
		if n := len(marksOf(t, out)); n != 5+2*stretches {
			t.Fatal(restart, n)
		}
	}
}

// One stretch is read without those ahead: what is put in between has its own
// differences, and its own likelihoods.
func TestRestartsBeginAnewWhenWrittenAnew(t *testing.T) {
	s := plainStream(rowsOf(4, 1, 0), 0)
	for i := range s.Coefs.Planes[0] {
		s.Coefs.Planes[0][i] = with(flat(0), 0, 100)
	}
	b := impl.WriteStream(s)
	for _, x := range []struct {
		restart int
		diffs   [][]int
	}{{0, [][]int{{100, 0, 0, 0}}}, {1, [][]int{{100}, {100}, {100}, {100}}}, {2, [][]int{{100, 0}, {100, 0}}}, {3, [][]int{{100, 0, 0}, {100}}}, {4, [][]int{{100, 0, 0, 0}}}, {5, [][]int{{100, 0, 0, 0}}}} {
		out := checkAnew(t, "anew", s, b, manner{1, 0, x.restart})
		segs, _ := impl.ReadSegs(out)
		for i, diffs := range x.diffs {
			var bins []impl.Bin
			for _, n := range diffs {
				bins = append(bins, slices.Concat(impl.BinsOf(n, 0), impl.BinsOf(0, 20))...)
			}
			if !bytes.Equal(segs[6+2*i].Data, impl.EncodeBins(bins)) {
				t.Fatal(x.restart, i, segs[6+2*i].Data)
			}
		}
	}
}

// alterations are changes after which a stream of two components is ok still,
// but not the same.
func alterations() map[string]func(s *impl.Stream) {
	m := map[string]func(s *impl.Stream){
		"Prec":                 func(s *impl.Stream) { s.Frame.Prec = 20 - s.Frame.Prec },
		"a column more":        func(s *impl.Stream) { s.Frame.Width++ },
		"a column less":        func(s *impl.Stream) { s.Frame.Width-- },
		"a row more":           func(s *impl.Stream) { s.Frame.Height++ },
		"a row less":           func(s *impl.Stream) { s.Frame.Height-- },
		"sides turned about":   func(s *impl.Stream) { s.Frame.Width, s.Frame.Height = s.Frame.Height, s.Frame.Width },
		"components turned":    func(s *impl.Stream) { slices.Reverse(s.Frame.Comps) },
		"planes turned":        func(s *impl.Stream) { slices.Reverse(s.Coefs.Planes) },
		"blocks turned":        func(s *impl.Stream) { slices.Reverse(s.Coefs.Planes[1]) },
		"tables turned":        func(s *impl.Stream) { slices.Reverse(s.Tables) },
		"two tables turned":    func(s *impl.Stream) { s.Tables[1], s.Tables[2] = s.Tables[2], s.Tables[1] },
		"no note":              func(s *impl.Stream) { s.Note = nil },
		"an empty note":        func(s *impl.Stream) { s.Note = s.Note[:0] },
		"a shorter note":       func(s *impl.Stream) { s.Note = s.Note[:len(s.Note)-1] },
		"a note without first": func(s *impl.Stream) { s.Note = s.Note[1:] },
		"a longer note":        func(s *impl.Stream) { s.Note = append(s.Note, 0) },
		"a note turned about":  func(s *impl.Stream) { slices.Reverse(s.Note) },
		"all of H":             func(s *impl.Stream) { s.Frame.Comps[0].H, s.Frame.Comps[1].H = 2, 2 },
		"all of V":             func(s *impl.Stream) { s.Frame.Comps[0].V, s.Frame.Comps[1].V = 2, 2 },
	}
	for comp := range 2 {
		at := " of " + strconv.Itoa(comp)
		m["Id"+at] = func(s *impl.Stream) { s.Frame.Comps[comp].Id = 99 }
		m["Q"+at] = func(s *impl.Stream) { s.Frame.Comps[comp].Q = 3 }
		m["a plane of noughts"+at] = func(s *impl.Stream) { s.Coefs.Planes[comp] = impl.EmptyCoefs(s.Frame).Planes[comp] }
	}
	return m
}

// twoComponents is a stream that the alterations leave ok: it has no hidden
// blocks, whatever the side that is one more or less.
func twoComponents(d *dice) impl.Stream {
	f := shared(30, 30, [2]int{1, 1}, [2]int{1, 1})
	f.Comps[1].Q = 1
	s := plainStream(f, 0)
	s.Frame.Width = 29
	s.Coefs, s.Note = sparseCoefs(d, f, 30, 50), []byte("a note")
	return s
}

func TestSameStreamFields(t *testing.T) {
	d := dice(1910)
	s := twoComponents(&d)
	for what, change := range alterations() {
		x := altered(s, change)
		if !impl.StreamOk(x) {
			t.Fatalf("%s: not even ok", what)
		}
		checkSame(t, what, s, x, false)
		checkSame(t, what, x, x, true)
		checkSame(t, what, x, cloneStream(x), true)
		// Nor when what may be another one is another one too.
		checkSame(t, what, inManner(s, manner{1, 2, 3}), x, false)
	}
	for number := range 4 {
		for k := range 64 {
			for _, by := range []int{1, -1} {
				x := altered(s, func(s *impl.Stream) {
					if q := s.Tables[number]; between(1, impl.MaxStep, q[k]+by) {
						q[k] += by
					} else {
						q[k] -= by
					}
				})
				checkSame(t, "a step", s, x, false)
			}
		}
	}
	for i := range s.Note {
		checkSame(t, "a byte of the note", s, altered(s, func(s *impl.Stream) { s.Note[i] ^= 128 }), false)
	}
}

func TestSameStreamCoefs(t *testing.T) {
	d := dice(1911)
	for _, f := range []impl.Frame{shared(17, 9, [2]int{2, 2}, [2]int{1, 1}), shared(9, 8, [2]int{1, 1})} {
		s := plainStream(f, 1)
		s.Coefs = sparseCoefs(&d, f, 40, 9)
		for _, p := range allPlaces(f) {
			for k := range 64 {
				for _, by := range []int{1, -1} {
					x := altered(s, func(s *impl.Stream) { (*blockIn(f, s.Coefs, p))[k] += by })
					checkSame(t, "a number", s, x, false)
					// One that a hidden block has is not the same as itself.
					checkSame(t, "a number", x, x, isNeeded(f, p))
				}
			}
		}
	}
}

// Restart, Mode and Script may be others, each by itself and together.
func TestSameStreamInOtherManners(t *testing.T) {
	d := dice(1912)
	for range 20 {
		s := anyStream(&d, d.below(3))
		for _, restart := range []int{0, 1, 2, 254, 255} {
			checkSame(t, "Restart", s, altered(s, func(s *impl.Stream) { s.Frame.Restart = restart }), true)
		}
		for mode := range 2 {
			checkSame(t, "Mode", s, altered(s, func(s *impl.Stream) { s.Mode = mode }), true)
		}
		for kind := range 3 {
			checkSame(t, "Script", s, altered(s, func(s *impl.Stream) { s.Script = impl.ScriptFor(s.Frame, kind) }), true)
		}
		checkSame(t, "Script", s, altered(s, func(s *impl.Stream) { s.Script = wholeScript(&d, s.Frame) }), true)
		for _, m := range manners(0, 1, 255) {
			checkSame(t, "all three", s, inManner(cloneStream(s), m), true)
			checkSame(t, "all three", inManner(cloneStream(s), drawnManner(&d)), inManner(s, m), true)
		}
	}
	// Ok is asked of the stream, not of whether it can be written.
	s := plainStream(rowsOf(16, 16, 1), 2)
	if len(impl.WriteStream(s)) != 0 {
		t.Fatal("written")
	}
	checkSame(t, "not written", s, inManner(s, manner{}), true)
}

// A Note without a byte is one that is nil.
func TestSameStreamEmptyNotes(t *testing.T) {
	s := handStream()
	notes := [][]byte{nil, {}, make([]byte, 0, 9), s.Note[:0], s.Note[3:]}
	for _, a := range notes {
		for _, b := range notes {
			x, y := altered(s, func(s *impl.Stream) { s.Note = a }), altered(s, func(s *impl.Stream) { s.Note = b })
			checkSame(t, "no byte", x, y, true)
			checkSame(t, "three bytes", x, s, false)
		}
	}
	for _, n := range []int{1, 999, 1000} {
		x := altered(s, func(s *impl.Stream) { s.Note = sevens(n) })
		checkSame(t, "a note", x, cloneStream(x), true)
		checkSame(t, "one byte more", x, altered(s, func(s *impl.Stream) { s.Note = sevens(n - 1) }), false)
	}
	x := altered(s, func(s *impl.Stream) { s.Note = sevens(1001) })
	checkSame(t, "too long", x, x, false)
}

// badStreams are changes after which a stream is not ok: of some all that
// SameStream holds against each other is as it was.
func badStreams() map[string]func(s *impl.Stream) {
	return map[string]func(s *impl.Stream){
		"Restart 256":     func(s *impl.Stream) { s.Frame.Restart = 256 },
		"Restart -1":      func(s *impl.Stream) { s.Frame.Restart = -1 },
		"Mode 2":          func(s *impl.Stream) { s.Mode = 2 },
		"Mode -1":         func(s *impl.Stream) { s.Mode = -1 },
		"no Script":       func(s *impl.Stream) { s.Script = nil },
		"a bit less":      func(s *impl.Stream) { s.Script[0].Low = 1 },
		"a scan twice":    func(s *impl.Stream) { s.Script = append(s.Script, s.Script[0]) },
		"a table less":    func(s *impl.Stream) { s.Tables = s.Tables[:3] },
		"a table more":    func(s *impl.Stream) { s.Tables = append(s.Tables, flat(1)) },
		"an empty table":  func(s *impl.Stream) { s.Tables[3] = nil },
		"a step of 0":     func(s *impl.Stream) { s.Tables[3][63] = 0 },
		"a step too much": func(s *impl.Stream) { s.Tables[0][0] = impl.MaxStep + 1 },
		"a plane less":    func(s *impl.Stream) { s.Coefs.Planes = s.Coefs.Planes[:1] },
		"a plane more":    func(s *impl.Stream) { s.Coefs.Planes = append(s.Coefs.Planes, nil) },
		"a block less":    func(s *impl.Stream) { s.Coefs.Planes[1] = s.Coefs.Planes[1][1:] },
		"a block more":    func(s *impl.Stream) { s.Coefs.Planes[1] = append(s.Coefs.Planes[1], flat(0)) },
		"an empty block":  func(s *impl.Stream) { s.Coefs.Planes[0][0] = nil },
		"a level more":    func(s *impl.Stream) { s.Coefs.Planes[0][0][0] = impl.MaxLevel + 1 },
		"no Comps":        func(s *impl.Stream) { s.Frame.Comps = nil },
		"Prec 10":         func(s *impl.Stream) { s.Frame.Prec = 10 },
		"Width 0":         func(s *impl.Stream) { s.Frame.Width = 0 },
		"Height 257":      func(s *impl.Stream) { s.Frame.Height = 257 },
		"Q 4":             func(s *impl.Stream) { s.Frame.Comps[0].Q = 4 },
		"Ids alike":       func(s *impl.Stream) { s.Frame.Comps[0].Id = s.Frame.Comps[1].Id },
		"a long note":     func(s *impl.Stream) { s.Note = make([]byte, 1001) },
	}
}

func TestSameStreamOfStreamsThatAreNotOk(t *testing.T) {
	d := dice(1913)
	s := twoComponents(&d)
	list := []impl.Stream{{}}
	for what, change := range badStreams() {
		x := altered(s, change)
		if impl.StreamOk(x) {
			t.Fatalf("%s: ok", what)
		}
		checkSame(t, what, s, x, false)
		checkSame(t, what, x, x, false)
		checkSame(t, what, x, cloneStream(x), false)
		list = append(list, x)
	}
	for what, x := range brokenStreams() {
		checkSame(t, what, x, cloneStream(x), false)
		checkSame(t, what, s, x, false)
		list = append(list, x)
	}
	for range 400 {
		checkSame(t, "neither", list[d.below(len(list))], list[d.below(len(list))], false)
	}
	// The limits themselves are ok.
	for _, change := range []func(s *impl.Stream){
		func(s *impl.Stream) { s.Frame.Restart = 255 },
		func(s *impl.Stream) { s.Tables[0] = flat(impl.MaxStep) },
		func(s *impl.Stream) { s.Coefs.Planes[0][0] = flat(impl.MaxLevel) },
		func(s *impl.Stream) { s.Coefs.Planes[0][0] = flat(-impl.MaxLevel) },
		func(s *impl.Stream) { s.Note = make([]byte, 1000) },
	} {
		x := altered(s, change)
		checkSame(t, "at a limit", x, cloneStream(x), true)
	}
}

// Neither function panics, and both answer by the rule.
func TestRecodingOfAnyArgument(t *testing.T) {
	d := dice(1914)
	same, kept := 0, 0
	for range 500 {
		s := anyStream(&d, d.below(2))
		a, b := cloneStream(s), cloneStream(s)
		for range d.below(3) {
			wilder(&d)(&a)
		}
		if d.below(4) == 0 {
			wilder(&d)(&b)
		}
		want := ruleSame(a, b)
		checkSame(t, "wild", a, b, want)
		if want {
			same++
		}
		text := turnedBytes(&d, impl.WriteStream(s))
		m := drawnManner(&d)
		if d.below(4) == 0 {
			list := wrongManners()
			m = list[d.below(len(list))]
		}
		if _, f := checkRecode(t, "turned", text, m); f.Code == 0 {
			kept++
		}
		checkRecode(t, "bytes", bytesThrown(&d, d.below(90)), m)
		checkRecode(t, "inner bytes", stream(bytesThrown(&d, d.below(90))...), m)
		checkRecode(t, "segments", segsText(turnedSegs(&d, streamParts(s))), m)
	}
	if !between(100, 400, same) || kept < 20 {
		t.Fatal(same, kept)
	}
	s := handStream()
	b := impl.WriteStream(s)
	strange := []int{math.MinInt, math.MinInt + 1, -1 << 32, -256, -1, 0, 1, 2, 3, 255, 256, 1 << 32, math.MaxInt - 1, math.MaxInt}
	for _, mode := range strange {
		for _, kind := range strange {
			for _, restart := range strange {
				checkRecode(t, "far", b, manner{mode, kind, restart})
			}
		}
	}
}

// checkRecodeLeft calls Recode with room behind the bytes, and asks that all of
// it stays as it was and that the answer is that without it.
func checkRecodeLeft(t *testing.T, what string, b []byte, m manner) {
	t.Helper()
	want, fault := ruleRecode(bytes.Clone(b), m)
	for _, behind := range [][]byte{nil, {255, 254}, {254}, {0}, {255, 5, 0, 0}, make([]byte, 5000)} {
		g := guard(b, behind...)
		got, f := m.recode(g.list)
		g.check(t, what)
		if f != fault || !bytes.Equal(got, want) {
			t.Fatalf("%s, %v: another answer with other room behind the bytes", what, m)
		}
		// The answer lies elsewhere, and so does the room behind it.
		scribble(got, 171)
		g.check(t, what+", the answer written over")
	}
}

// checkSameLeft calls SameStream with room behind each list, and asks that all
// of it stays as it was and that the answer is that without it.
func checkSameLeft(t *testing.T, what string, a, b impl.Stream) {
	t.Helper()
	x, checkX := roomyStream(a)
	y, checkY := roomyStream(b)
	checkSame(t, what, x, y, ruleSame(a, b))
	checkX(t, what)
	checkY(t, what)
}

func TestRecodingLeavesArguments(t *testing.T) {
	d := dice(1915)
	for range 60 {
		s := anyStream(&d, d.below(3))
		b, m := impl.WriteStream(s), drawnManner(&d)
		checkRecodeLeft(t, "ok", b, m)
		checkRecodeLeft(t, "no such kind", b, manner{m.mode, 3, m.restart})
		checkRecodeLeft(t, "without the end", b[:len(b)-2], m)
		checkRecodeLeft(t, "without half of the end", b[:len(b)-1], m)
		checkRecodeLeft(t, "turned", turnedBytes(&d, b), m)
		checkSameLeft(t, "the same", s, s)
		checkSameLeft(t, "in another manner", s, inManner(s, m))
		checkSameLeft(t, "another note", s, altered(s, func(s *impl.Stream) { s.Note = append(s.Note, 77) }))
		checkSameLeft(t, "a table too few", s, altered(s, func(s *impl.Stream) { s.Tables = s.Tables[:3] }))
		checkSameLeft(t, "a scan too few", s, altered(s, func(s *impl.Stream) { s.Script = s.Script[:len(s.Script)-1] }))
		x := cloneStream(s)
		wilder(&d)(&x)
		checkSameLeft(t, "wild", s, x)
	}
	checkSameLeft(t, "zero values", impl.Stream{}, impl.Stream{})
	for mode := range 2 {
		s := parted(mode)
		for _, x := range flawsOf(s) {
			checkRecodeLeft(t, x.what, segsText(x.put(streamParts(s))), manner{mode, 1, 2})
		}
	}
}

// Both of SameStream's streams may be the same lists, and these may share
// memory among themselves.
func TestSameStreamOfSharedLists(t *testing.T) {
	f := shared(16, 16, [2]int{1, 1}, [2]int{1, 1})
	block, table := cycled(64, 3, 0, -2), cycled(64, 7, 900)
	plane := slices.Repeat([][]int{block}, 4)
	s := impl.Stream{Frame: f, Tables: slices.Repeat([][]int{table}, 4), Coefs: impl.Coefs{Planes: [][][]int{plane, plane}}, Script: impl.ScriptFor(f, 0)}
	checkSame(t, "shared", s, s, true)
	checkSame(t, "shared", s, cloneStream(s), true)
	other := s
	other.Coefs.Planes = [][][]int{plane, slices.Repeat([][]int{flat(1)}, 4)}
	checkSame(t, "half of it shared", s, other, false)
	if !slices.Equal(block, cycled(64, 3, 0, -2)) || !slices.Equal(table, cycled(64, 7, 900)) {
		t.Fatal("an argument was written into")
	}
}

// Each answer is asked for twice, one of them and the argument written over.
func TestRecodedBytesAreNewMemory(t *testing.T) {
	d := dice(1916)
	for range 80 {
		s := anyStream(&d, d.below(20))
		b, m := impl.WriteStream(s), drawnManner(&d)
		own := bytes.Clone(b)
		want, _ := ruleRecode(b, m)
		x, _ := m.recode(own)
		y, _ := m.recode(own)
		scribble(y, 99)
		if !bytes.Equal(own, b) {
			t.Fatal("an answer shares memory with the bytes")
		}
		scribble(own, 98)
		if !bytes.Equal(x, want) {
			t.Fatal("an answer shares memory with the bytes or with another one")
		}
		// In the manner in which it is written already it is new memory too.
		again, _ := m.recode(want)
		scribble(again, 97)
		if !bytes.Equal(x, want) {
			t.Fatal("an answer is its argument")
		}
	}
}

// recodeAsked is a stream, bytes and a manner, and what was answered.
type recodeAsked struct {
	b     []byte
	m     manner
	out   []byte
	fault impl.Fault
	s, x  impl.Stream
	alike bool
}

// same tells whether both functions answer as before.
func (a recodeAsked) same() bool {
	out, f := a.m.recode(a.b)
	return f == a.fault && bytes.Equal(out, a.out) && impl.SameStream(a.s, a.x) == a.alike && impl.SameStream(a.x, a.s) == a.alike
}

// recodesAsked are some that are refused, and some that are not the same, among
// others with many stretches.
func recodesAsked(d *dice) []recodeAsked {
	var list []recodeAsked
	for i := range 24 {
		s := anyStream(d, i)
		if i%6 == 5 {
			f := rowsOf(15, 9, 0)
			s = plainStream(f, 1)
			s.Coefs = sparseCoefs(d, f, 10, 60)
		}
		a := recodeAsked{b: impl.WriteStream(s), m: drawnManner(d), s: s, x: inManner(cloneStream(s), drawnManner(d))}
		switch i % 4 {
		case 1:
			a.b = turnedBytes(d, a.b)
		case 2:
			wilder(d)(&a.x)
		case 3:
			a.m.restart = 1
		}
		a.out, a.fault = ruleRecode(a.b, a.m)
		a.alike = ruleSame(a.s, a.x)
		list = append(list, a)
	}
	return list
}

// The same arguments give the same answers, whatever was asked for between,
// however the goroutines inside run, on one thread and on many, and asked from
// many goroutines at once.
func TestRecodingAtOnce(t *testing.T) {
	d := dice(1917)
	list := recodesAsked(&d)
	was := runtime.GOMAXPROCS(0)
	defer runtime.GOMAXPROCS(was)
	for _, threads := range []int{1, 2, was, 4 * was} {
		runtime.GOMAXPROCS(threads)
		for range 2 {
			slices.Reverse(list)
			for _, a := range list {
				if !a.same() {
					t.Fatalf("%d threads: other answers: %v, %v, %v", threads, a.s.Frame, a.m, a.fault)
				}
			}
		}
	}
	var all sync.WaitGroup
	for range 8 {
		all.Add(1)
		go func() {
			defer all.Done()
			for _, a := range list {
				if !a.same() {
					t.Errorf("at once: other answers: %v, %v, %v", a.s.Frame, a.m, a.fault)
				}
			}
		}()
	}
	all.Wait()
}

// No goroutine is left behind, also where nothing is answered.
func TestRecodingLeavesNoGoroutine(t *testing.T) {
	d := dice(1918)
	was := runtime.NumGoroutine()
	for _, a := range recodesAsked(&d) {
		if !a.same() {
			t.Fatal(a.s.Frame, a.m)
		}
	}
	for range 200 {
		if runtime.NumGoroutine() <= was {
			return
		}
		time.Sleep(10 * time.Millisecond)
	}
	t.Fatal(was, runtime.NumGoroutine())
}
