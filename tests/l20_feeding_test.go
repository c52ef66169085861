package tests

import (
	"bytes"
	"math"
	"runtime"
	"slices"
	"strconv"
	"sync"
	"testing"
	"time"

	"loop.example/g00139/impl"
)

func sameFeed(a, b impl.Feed) bool {
	return bytes.Equal(a.Bytes, b.Bytes) && a.Whole == b.Whole && a.Over == b.Over && a.Fault == b.Fault
}

func cloneFeed(f impl.Feed) impl.Feed {
	f.Bytes = bytes.Clone(f.Bytes)
	return f
}

// feedShown leaves the bytes out: they may be many.
func feedShown(f impl.Feed) string {
	return strconv.Itoa(len(f.Bytes)) + " bytes, Whole " + strconv.Itoa(f.Whole) + ", Over " + strconv.FormatBool(f.Over) +
		", Fault " + strconv.Itoa(f.Fault.Code) + " at " + strconv.Itoa(f.Fault.At)
}

// fullFeed is that of more than MaxBytes bytes.
func fullFeed() impl.Feed { return impl.Feed{Fault: impl.Fault{Code: 1}} }

// ruleAhead are the segments that are whole in bytes that end too early, by the
// chapter's words: those of the longest beginning that is a stream with an end
// behind it, but for run data behind which no 255 and another byte than 0 stand.
func ruleAhead(b []byte) []impl.Seg {
	for n := len(b); ; n-- {
		list, f := impl.ReadSegs(slices.Concat(b[:n], []byte{255, 254}))
		if f.Code != 0 {
			continue
		}
		closed := n+1 < len(b) && b[n] == 255 && b[n+1] != 0
		if last := len(list) - 1; last >= 0 && list[last].Mark == 0 && !closed {
			return list[:last]
		}
		return list
	}
}

// ruleSoFar is SegsSoFar by the chapter's words, made of ReadSegs.
func ruleSoFar(b []byte) ([]impl.Seg, bool, impl.Fault) {
	list, f := impl.ReadSegs(b)
	switch f.Code {
	case 0:
		return list, true, f
	case 1:
		return nil, false, f
	case 2:
		if len(b) == 0 || len(b) == 1 && b[0] == 84 {
			f = impl.Fault{}
		}
		return nil, false, f
	case 3:
		return ruleAhead(b), false, impl.Fault{}
	case 7:
		list, _ = impl.ReadSegs(b[:f.At])
		return list, true, f
	}
	list, _ = impl.ReadSegs(slices.Concat(b[:f.At], []byte{255, 254}))
	return list, false, f
}

func ruleFeed(b []byte) impl.Feed {
	if len(b) > 60000 {
		return fullFeed()
	}
	list, over, f := ruleSoFar(b)
	return impl.Feed{Bytes: b, Whole: len(list), Over: over, Fault: f}
}

func feedRule(f impl.Feed) bool {
	return len(f.Bytes) <= 60000 && sameFeed(f, ruleFeed(f.Bytes)) || sameFeed(f, fullFeed())
}

func rulePush(f impl.Feed, chunk []byte) impl.Feed {
	if !feedRule(f) {
		return impl.Feed{}
	}
	if f.Fault.Code != 0 {
		return f
	}
	return ruleFeed(slices.Concat(f.Bytes, chunk))
}

func ruleFeedEnd(f impl.Feed) (impl.Stream, impl.Fault) {
	if !feedRule(f) {
		return impl.Stream{}, impl.Fault{Code: 2}
	}
	if f.Fault.Code != 0 {
		return impl.Stream{}, f.Fault
	}
	return ruleReadStream(f.Bytes)
}

// checkSoFar holds SegsSoFar against the rule, and answers how many segments
// are whole.
func checkSoFar(t *testing.T, what string, b []byte) int {
	t.Helper()
	want, wantOver, wantFault := ruleSoFar(b)
	list, over, f := impl.SegsSoFar(b)
	if !sameSegs(list, want) || over != wantOver || f != wantFault {
		t.Fatalf("%s, %d bytes: %d segments, %v, %v, and not %d, %v, %v", what, len(b), len(list), over, f, len(want), wantOver, wantFault)
	}
	return len(list)
}

// checkFeedOk asks for what FeedOk answers, and holds it against the rule.
func checkFeedOk(t *testing.T, what string, f impl.Feed, want bool) {
	t.Helper()
	if feedRule(f) != want {
		t.Fatalf("%s, %s: by the chapter's words this is not %v", what, feedShown(f), want)
	}
	if impl.FeedOk(f) != want {
		t.Fatalf("%s, %s: FeedOk is %v", what, feedShown(f), !want)
	}
}

// checkPush holds Push against the rule, and answers the Feed.
func checkPush(t *testing.T, what string, f impl.Feed, chunk []byte) impl.Feed {
	t.Helper()
	want, got := rulePush(f, chunk), impl.Push(f, chunk)
	if !sameFeed(got, want) {
		t.Fatalf("%s, %s, and %d bytes: %s, and not %s", what, feedShown(f), len(chunk), feedShown(got), feedShown(want))
	}
	if !impl.FeedOk(got) {
		t.Fatalf("%s, %s, and %d bytes: %s is not FeedOk", what, feedShown(f), len(chunk), feedShown(got))
	}
	return got
}

// checkEnd holds FeedEnd against the rule, and answers the fault.
func checkEnd(t *testing.T, what string, f impl.Feed) impl.Fault {
	t.Helper()
	want, wantFault := ruleFeedEnd(f)
	s, fault := impl.FeedEnd(f)
	if fault != wantFault || !sameStream(s, want) {
		t.Fatalf("%s, %s: a stream with %v, %v, and not %v, %v", what, feedShown(f), s.Frame, fault, want.Frame, wantFault)
	}
	return fault
}

func pushAll(f impl.Feed, pieces ...[]byte) impl.Feed {
	for _, piece := range pieces {
		f = impl.Push(f, piece)
	}
	return f
}

// onePieces are bytes one by one.
func onePieces(b []byte) [][]byte { return slices.Collect(slices.Chunk(b, 1)) }

// drawnPieces are bytes in pieces of drawn sizes, with empty ones and nil ones
// among them; behind each stands in its spare room what comes next.
func drawnPieces(d *dice, b []byte) [][]byte {
	most := []int{3, 50, 1000, 60000}[d.below(4)]
	switch {
	case len(b) > 9000:
		most = max(most, 1000)
	case len(b) > 500:
		most = max(most, 50)
	}
	list := [][]byte{{}}
	for len(b) > 0 {
		list = append(list, [][][]byte{nil, {nil}, {{}}, {b[:0]}, {nil, nil}}[d.below(5)]...)
		n := min(1+d.below(most), len(b))
		list = append(list, b[:n])
		b = b[n:]
	}
	return append(list, nil, []byte{})
}

// fedStream is a stream that is fed: its segments, its bytes, and of each
// segment how many of these have to be there until it is whole.
type fedStream struct {
	list []impl.Seg
	text []byte
	from []int
}

func feeding(list []impl.Seg) fedStream {
	x := fedStream{list: list, text: segsText(list)}
	for i, s := range list {
		n := len(headOf(list[:i+1]))
		if s.Mark == 0 {
			n += 2
		}
		x.from = append(x.from, n)
	}
	return x
}

func feedingOf(t *testing.T, b []byte) fedStream {
	t.Helper()
	list, f := impl.ReadSegs(b)
	x := feeding(list)
	if f.Code != 0 || !bytes.Equal(x.text, b) {
		t.Fatal(f, len(b))
	}
	return x
}

// upTo is the Feed of its first n bytes.
func (x fedStream) upTo(n int) impl.Feed {
	whole := 0
	for whole < len(x.from) && x.from[whole] <= n {
		whole++
	}
	return impl.Feed{Bytes: x.text[:n], Whole: whole, Over: n == len(x.text)}
}

// checkBeginning asks that the segments that are whole in the first n bytes are
// the first ones of the stream.
func (x fedStream) checkBeginning(t *testing.T, what string, n int) {
	t.Helper()
	want := x.upTo(n)
	list, over, f := impl.SegsSoFar(want.Bytes)
	if !sameSegs(list, x.list[:want.Whole]) || over != want.Over || f != (impl.Fault{}) {
		t.Fatalf("%s, %d bytes of %d: %d segments, %v, %v, and not %d of %d", what, n, len(x.text), len(list), over, f, want.Whole, len(x.list))
	}
}

// checkFed feeds the pieces, and asks behind each for what SegsSoFar tells of
// the bytes so far.
func (x fedStream) checkFed(t *testing.T, what string, pieces ...[]byte) impl.Feed {
	t.Helper()
	f, n := impl.Feed{}, 0
	for i, piece := range pieces {
		f = impl.Push(f, piece)
		n += len(piece)
		if want := x.upTo(n); !sameFeed(f, want) || !impl.FeedOk(f) {
			t.Fatalf("%s, piece %d of %d: %s, and not %s", what, i, len(pieces), feedShown(f), feedShown(want))
		}
		x.checkBeginning(t, what, n)
	}
	if n != len(x.text) {
		t.Fatal(n, len(x.text))
	}
	return f
}

// checkHalves cuts the stream at each place.
func (x fedStream) checkHalves(t *testing.T, what string, whole impl.Feed) {
	t.Helper()
	for n := range len(x.text) + 1 {
		half := impl.Push(impl.Feed{}, x.text[:n])
		if want := x.upTo(n); !sameFeed(half, want) {
			t.Fatalf("%s, cut at %d: %s, and not %s", what, n, feedShown(half), feedShown(want))
		}
		if both := impl.Push(half, x.text[n:]); !sameFeed(both, whole) {
			t.Fatalf("%s, cut at %d: %s, and not %s", what, n, feedShown(both), feedShown(whole))
		}
	}
}

// checkFedStream asks for promise 20 of a stream and of the bytes that tell it,
// however they come; in all ways where they are not too many.
func checkFedStream(t *testing.T, d *dice, what string, s impl.Stream, b []byte, most int) {
	t.Helper()
	x := feedingOf(t, b)
	whole := x.checkFed(t, what+", at once", b)
	ways := [][][]byte{drawnPieces(d, b), drawnPieces(d, b)}
	if len(b) <= most {
		ways = append(ways, onePieces(b))
		x.checkHalves(t, what, whole)
	}
	for _, pieces := range ways {
		if f := x.checkFed(t, what, pieces...); !sameFeed(f, whole) {
			t.Fatalf("%s, in %d pieces: %s, and not %s", what, len(pieces), feedShown(f), feedShown(whole))
		}
	}
	told, f := impl.FeedEnd(whole)
	read, g := impl.ReadStream(b)
	if f != (impl.Fault{}) || g != (impl.Fault{}) || !sameStream(told, s) || !sameStream(read, s) {
		t.Fatalf("%s, %v, %v: told as %v, %v, fault %v", what, s.Frame, s.Script, told.Frame, told.Script, f)
	}
}

// handFeed is a stream without a picture, and how many segments are whole in
// its first bytes: none up to 9 of them, ..
func handFeed() ([]byte, []int) {
	b := []byte{84, 83, 255, 9, 0, 3, 255, 254, 1, 255, 0, 4, 255, 0, 255, 243, 255, 0, 255, 8, 0, 0, 255, 254}
	return b, []int{0, 0, 0, 0, 0, 0, 0, 0, 0, 1, 1, 1, 1, 1, 1, 1, 3, 3, 3, 3, 4, 4, 5, 5, 5}
}

func TestFeedByHand(t *testing.T) {
	b, whole := handFeed()
	list := []impl.Seg{segPart(9, 255, 254, 1), segRun(255, 4, 255), segRestart(243), segRun(255), segPart(8)}
	f := impl.Feed{}
	for n, count := range whole {
		if f.Whole != count || f.Over != (n == len(b)) || f.Fault != (impl.Fault{}) || !bytes.Equal(f.Bytes, b[:n]) {
			t.Fatal(n, f, count)
		}
		checkFeedOk(t, "by hand", f, true)
		got, over, fault := impl.SegsSoFar(b[:n])
		if !sameSegs(got, list[:count]) || over != f.Over || fault != f.Fault {
			t.Fatal(n, got, over, fault)
		}
		want := impl.Fault{Code: impl.SgEnd, At: n}
		if n < 2 {
			want = impl.Fault{Code: impl.SgBegin}
		}
		if n == len(b) {
			want = impl.Fault{Code: impl.StFrame}
		}
		if s, fault := impl.FeedEnd(f); fault != want || !isZeroStream(s) {
			t.Fatal(n, fault, want)
		}
		if n < len(b) {
			f = impl.Push(f, b[n:n+1])
		}
	}
	over := f
	f = impl.Push(f, []byte{255, 254})
	if f.Whole != 5 || !f.Over || f.Fault != (impl.Fault{Code: impl.SgRest, At: 24}) || len(f.Bytes) != 26 {
		t.Fatal(f)
	}
	if g := impl.Push(f, b); !sameFeed(g, f) {
		t.Fatal(g)
	}
	if _, fault := impl.FeedEnd(f); fault != f.Fault {
		t.Fatal(fault)
	}
	if g := impl.Push(over, nil); !sameFeed(g, over) {
		t.Fatal(g)
	}
}

// Promise 20 of drawn streams of one to four components, written in both modes,
// with the three scripts and with drawn ones, with restarts and without, and
// notes; and of the same written anew.
func TestStreamsFedInPieces(t *testing.T) {
	d := dice(2000)
	anew := 0
	for comps := 1; comps <= 4; comps++ {
		list := sharesOf(comps)
		for mode := range 2 {
			for kind := range 4 {
				for i, restart := range []int{0, 1, 3, 255} {
					s := drawnStream(&d, list[d.below(len(list))], mode, kind, restart, []int{0, 1, 1000, 7}[i])
					b := impl.WriteStream(s)
					checkFedStream(t, &d, "written", s, b, 900)
					m := drawnManner(&d)
					if again, f := m.recode(b); f.Code == 0 {
						anew++
						checkFedStream(t, &d, "written anew", inManner(s, m), again, 800)
					}
				}
			}
		}
	}
	if anew < 110 {
		t.Fatal(anew)
	}
}

// Of each mode and script, with restarts, all ways in which they may come.
func TestStreamsFedByteByByte(t *testing.T) {
	d := dice(2001)
	for mode := range 2 {
		for kind := range 3 {
			f := restarted(shared(20, 12, [2]int{2, 1}, [2]int{1, 1}), 2*kind)
			s := plainStream(f, kind)
			s.Mode, s.Coefs, s.Note = mode, sparseCoefs(&d, f, 20, 90), []byte{255, 254, 0, 255}
			checkFedStream(t, &d, "byte by byte", s, impl.WriteStream(s), 9000)
		}
	}
	s := handStream()
	b := impl.WriteStream(s)
	checkFedStream(t, &d, "by hand", s, b, len(b))
	for _, m := range manners(0, 1, 2) {
		again, f := m.recode(b)
		if f.Code != 0 {
			t.Fatal(m, f)
		}
		checkFedStream(t, &d, "by hand, "+m.String(), inManner(s, m), again, 700)
	}
}

// Pictures that were fed come back as those that came at once.
func TestPicturesFedInPieces(t *testing.T) {
	d := dice(2002)
	for range 20 {
		p, o := anyPicture(&d), drawnOptions(&d)
		b := impl.Compress(p, o)
		if len(b) == 0 {
			continue
		}
		checkFedStream(t, &d, "a picture", impl.StreamFor(p, o), b, 0)
		s, f := impl.FeedEnd(pushAll(impl.Feed{}, drawnPieces(&d, b)...))
		want, _ := impl.Decompress(b)
		if f.Code != 0 || !samePicture(impl.PictureOf(s), want) {
			t.Fatalf("%v: another picture, fault %v", s.Frame, f)
		}
	}
}

// Segments that are no picture's, cut at each place, or, where there are many
// bytes, near all places where one begins or ends.
func TestBeginningsOfSegments(t *testing.T) {
	for what, list := range goodSegs() {
		x := feeding(list)
		places := slices.Concat(x.from, []int{0, len(x.text)})
		near := func(at int) bool {
			return len(x.text) < 2000 || slices.ContainsFunc(places, func(n int) bool { return between(n-9, n+9, at) })
		}
		for n := range len(x.text) + 1 {
			if !near(n) {
				continue
			}
			x.checkBeginning(t, what, n)
		}
	}
	d := dice(2003)
	for n := range 400 {
		what := "thrown " + strconv.Itoa(n)
		x := feeding(thrownSegs(&d, d.below(9)))
		for n := range len(x.text) + 1 {
			x.checkBeginning(t, what, n)
			if got := checkSoFar(t, what, x.text[:n]); got != x.upTo(n).Whole {
				t.Fatalf("%s: %d segments by the chapter's words, and %d by their places", what, got, x.upTo(n).Whole)
			}
		}
	}
}

// soFarRow is a row of bytes, and what SegsSoFar tells of it.
type soFarRow struct {
	b     string
	whole int
	over  bool
	code  int
	at    int
}

func checkSoFarRows(t *testing.T, rows []soFarRow) {
	t.Helper()
	for i, x := range rows {
		what := "row " + strconv.Itoa(i)
		list, over, f := impl.SegsSoFar([]byte(x.b))
		if len(list) != x.whole || over != x.over || f != (impl.Fault{Code: x.code, At: x.at}) {
			t.Errorf("%s, %d bytes: %d segments, %v, %v, and not %v", what, len(x.b), len(list), over, f, x)
		}
		checkSoFar(t, what, []byte(x.b))
		f2 := checkPush(t, what, impl.Feed{}, []byte(x.b))
		if want := (impl.Feed{Bytes: []byte(x.b), Whole: x.whole, Over: x.over, Fault: impl.Fault{Code: x.code, At: x.at}}); len(x.b) <= 60000 && !sameFeed(f2, want) {
			t.Errorf("%s: %s, and not %s", what, feedShown(f2), feedShown(want))
		}
		checkEnd(t, what, f2)
	}
}

func TestBeginningsOfNothing(t *testing.T) {
	checkSoFarRows(t, []soFarRow{
		{"", 0, false, 0, 0},
		{"T", 0, false, 0, 0},
		{"TS", 0, false, 0, 0},
		{"S", 0, false, 2, 0},
		{"\x00", 0, false, 2, 0},
		{"\xff", 0, false, 2, 0},
		{"U", 0, false, 2, 0},
		{"TT", 0, false, 2, 0},
		{"TR", 0, false, 2, 0},
		{"T\x00", 0, false, 2, 0},
		{"T\xff", 0, false, 2, 0},
		{"ST", 0, false, 2, 0},
		{"SS", 0, false, 2, 0},
		{"TTS", 0, false, 2, 0},
		{"T\xff\xfe", 0, false, 2, 0},
		{"S\xff\xfe", 0, false, 2, 0},
	})
}

func TestRunDataThatAreNotWhole(t *testing.T) {
	const part = "TS\xff\x07\x00\x00"
	checkSoFarRows(t, []soFarRow{
		{part, 1, false, 0, 0},
		{part + "\x05", 1, false, 0, 0},
		{part + "\x05\x06", 1, false, 0, 0},
		{part + "\x05\xff", 1, false, 0, 0},
		{part + "\x05\xff\x00", 1, false, 0, 0},
		{part + "\x05\xff\x00\xff", 1, false, 0, 0},
		{part + "\x05\xff\x00\x00", 1, false, 0, 0},
		{part + "\x05\xff\x00\xff\x00", 1, false, 0, 0},
		{part + "\x00", 1, false, 0, 0},
		{part + "\xfe", 1, false, 0, 0},
		// Another byte than 0 behind the 255.
		{part + "\x05\xff\x01", 2, false, 0, 0},
		{part + "\x05\xff\xef", 2, false, 0, 0},
		{part + "\x05\xff\xf0", 3, false, 0, 0},
		{part + "\x05\xff\xf7", 3, false, 0, 0},
		{part + "\x05\xff\xf8", 2, false, 4, 7},
		{part + "\x05\xff\xfd", 2, false, 4, 7},
		{part + "\x05\xff\xfe", 2, true, 0, 0},
		{part + "\x05\xff\xff", 2, false, 4, 7},
		{part + "\x05\xff\xff\x00", 2, false, 4, 7},
		{part + "\x05\xff\xff\xfe", 2, false, 4, 7},
		{part + "\x05\xff\x00\xff\xff", 2, false, 4, 9},
		{part + "\x05\xff\x00\xff\xfe", 2, true, 0, 0},
		// No byte, or one that is 255.
		{part + "\xff", 1, false, 0, 0},
		{part + "\xff\x00", 1, false, 0, 0},
		{part + "\xff\x00\xff", 1, false, 0, 0},
		{part + "\xff\x00\xff\x00", 1, false, 0, 0},
		{part + "\xff\x00\xff\x09", 2, false, 0, 0},
		{part + "\xff\x00\xff\xf3", 3, false, 0, 0},
		{part + "\xff\x00\xff\xfe", 2, true, 0, 0},
		{part + "\xff\x00\xff\xff", 2, false, 4, 8},
		{part + "\xff\xff", 1, false, 4, 6},
		{part + "\xff\xf0", 1, false, 4, 6},
		{part + "\xff\xfe", 1, true, 0, 0},
		// Behind a restart.
		{part + "\x05\xff\xf0\x06", 3, false, 0, 0},
		{part + "\x05\xff\xf0\xff", 3, false, 0, 0},
		{part + "\x05\xff\xf0\xff\x00", 3, false, 0, 0},
		{part + "\x05\xff\xf0\xff\xf1", 3, false, 4, 9},
		{part + "\x05\xff\xf0\x06\xff", 3, false, 0, 0},
		{part + "\x05\xff\xf0\x06\xff\xf1", 5, false, 0, 0},
		{part + "\x05\xff\xf0\x06\xff\xfe", 4, true, 0, 0},
		{part + "\x05\xff\xf0\xff\xfe", 3, true, 0, 0},
		// A part behind them that is not whole.
		{part + "\x05\xff\x01\x00", 2, false, 0, 0},
		{part + "\x05\xff\x01\x00\x00", 3, false, 0, 0},
		{part + "\x05\xff\x01\x00\x01", 2, false, 0, 0},
		{part + "\x05\xff\x01\x00\x01\xff", 3, false, 0, 0},
		{part + "\x05\xff\x01\x4e\x21", 2, false, 5, 7},
	})
}

func TestPartsThatAreNotWhole(t *testing.T) {
	data := string(sevens(impl.MaxData))
	checkSoFarRows(t, []soFarRow{
		{"TS\xff", 0, false, 0, 0},
		{"TS\xff\x07", 0, false, 0, 0},
		{"TS\xff\x07\x00", 0, false, 0, 0},
		{"TS\xff\x07\x00\x02", 0, false, 0, 0},
		{"TS\xff\x07\x00\x02\x01", 0, false, 0, 0},
		{"TS\xff\x07\x00\x02\x01\x05", 1, false, 0, 0},
		{"TS\xff\x07\x00\x02\xff\xfe", 1, false, 0, 0},
		{"TS\xff\x07\x00\x02\xff\xff", 1, false, 0, 0},
		{"TS\xff\x07\x00\x03\xff\xfe", 0, false, 0, 0},
		{"TS\xff\x01\x00\x00", 1, false, 0, 0},
		{"TS\xff\xef\x00\x00", 1, false, 0, 0},
		{"TS\xff\x07\x01\x00" + data[:255], 0, false, 0, 0},
		{"TS\xff\x07\x01\x00" + data[:256], 1, false, 0, 0},
		{"TS\xff\x07\x00\x01\x05\xff", 1, false, 0, 0},
		{"TS\xff\x07\x00\x01\x05\xff\x08", 1, false, 0, 0},
		{"TS\xff\x07\x00\x01\x05\xff\x08\x00", 1, false, 0, 0},
		{"TS\xff\x07\x00\x01\x05\xff\x08\x00\x01", 1, false, 0, 0},
		{"TS\xff\x07\x00\x01\x05\xff\x08\x00\x01\x06", 2, false, 0, 0},
		{"TS\xff\x07\x00\x01\x05\xff\xfe", 1, true, 0, 0},
		{"TS\xff\xfe", 0, true, 0, 0},
		{"TS\xff\x07\x4e", 0, false, 0, 0},
		{"TS\xff\x07\x4f", 0, false, 0, 0},
		{"TS\xff\x07\x4e\x20", 0, false, 0, 0},
		{"TS\xff\x07\x4e\x20" + data[1:], 0, false, 0, 0},
		{"TS\xff\x07\x4e\x20" + data, 1, false, 0, 0},
	})
}

func TestFaultsOfBeginnings(t *testing.T) {
	const part, run = "TS\xff\x07\x00\x00", "TS\xff\x07\x00\x01\x02\x05"
	data := string(sevens(impl.MaxData))
	parts, runs := string(headOf(manySegs(300))), string(headOf(turnSegs(300)))
	checkSoFarRows(t, []soFarRow{
		{"TS\x05", 0, false, 4, 2},
		{"TS\xfe", 0, false, 4, 2},
		{"TS\xff\x00", 0, false, 4, 2},
		{"TS\xff\xf0", 0, false, 4, 2},
		{"TS\xff\xf8", 0, false, 4, 2},
		{"TS\xff\xff", 0, false, 4, 2},
		{"TS\xff\xff\xfe", 0, false, 4, 2},
		{part + "\xff\xf8\xff\xfe", 1, false, 4, 6},
		{run + "\xff\xf0\xff\xf0\x05\xff\xfe", 3, false, 4, 10},
		{"TS\xff\x07\x4e\x21", 0, false, 5, 2},
		{"TS\xff\x07\xff\xff", 0, false, 5, 2},
		{part + "\xff\x08\x4e\x21" + data, 1, false, 5, 6},
		{part + data, 1, false, 0, 0},
		{part + data + "\xff", 1, false, 0, 0},
		{part + data + "\xff\xfe", 2, true, 0, 0},
		{part + data + "\xff\xf7", 3, false, 0, 0},
		{part + data + "\xff\xff", 2, false, 4, 20006},
		{part + data + "\x07", 1, false, 5, 6},
		{part + data + "\xff\x00", 1, false, 5, 6},
		{part + data + "\xff\x00\xff\xfe", 1, false, 5, 6},
		{part + data + "\x07\xff\xff", 1, false, 5, 6},
		{run + "\xff\xf0" + data + "\x07\xff\xfe", 3, false, 5, 10},
		{parts, 300, false, 0, 0},
		{parts + "\xff", 300, false, 0, 0},
		{parts + "\xff\xfe", 300, true, 0, 0},
		{parts + "\xff\xfe\xff", 300, true, 7, len(parts) + 2},
		{parts + "\x05", 300, false, 6, len(parts)},
		{parts + "\xff\x00", 300, false, 6, len(parts)},
		{parts + "\xff\x01", 300, false, 6, len(parts)},
		{parts + "\xff\x01\xff\xff", 300, false, 6, len(parts)},
		{parts + "\xff\xf0", 300, false, 4, len(parts)},
		{parts + data + "\x07", 300, false, 6, len(parts)},
		// The last of 300 are run data.
		{runs, 299, false, 0, 0},
		{runs + "\xff", 299, false, 0, 0},
		{runs + "\xff\x00", 299, false, 0, 0},
		{runs + "\xff\xf0", 300, false, 6, len(runs)},
		{runs + "\xff\x01", 300, false, 6, len(runs)},
		{runs + "\xff\xff", 300, false, 4, len(runs)},
		{runs + "\xff\xfe", 300, true, 0, 0},
		// Behind the end anything is a rest.
		{"TS\xff\xfe\x00", 0, true, 7, 4},
		{"TS\xff\xfe\xff\xfe", 0, true, 7, 4},
		{part + "\xff\xfe\xff", 1, true, 7, 8},
		{run + "\xff\xfe\xff\xfd", 2, true, 7, 10},
		{run + "\xff\xf1\xff\xfe\x05", 3, true, 7, 12},
		{run + "\xff\xfe" + data + data, 2, true, 7, 10},
		// More than MaxBytes bytes come ahead of all else.
		{"TS\xff\xfe" + data + data + data[4:], 0, true, 7, 4},
		{"TS\xff\xfe" + data + data + data[3:], 0, false, 1, 0},
		{"TT" + data + data + data[2:], 0, false, 2, 0},
		{"TT" + data + data + data[1:], 0, false, 1, 0},
		{run + data + data + data, 0, false, 1, 0},
	})
}

// All faults of chapter 2, of which the first is told, as ReadSegs does.
func TestFaultsOfSegmentsFed(t *testing.T) {
	d := dice(2004)
	codes := map[int]int{}
	for _, faults := range []map[string]faultRow{segFaults(), segTwoFaults()} {
		for what, x := range faults {
			want := impl.Fault{Code: x.code, At: x.at}
			if x.code == impl.SgEnd || len(x.b) == 0 || what == "begin: one byte" {
				want = impl.Fault{}
			}
			list, over, f := impl.SegsSoFar(x.b)
			if f != want || over != (x.code == impl.SgRest) {
				t.Fatalf("%s: %v, %v, and not %v", what, over, f, want)
			}
			codes[f.Code]++
			if again := checkSoFar(t, what, x.b); again != len(list) {
				t.Fatal(what, again, len(list))
			}
			checkPush(t, what, impl.Feed{}, x.b)
			checkFedBytes(t, what, x.b, drawnPieces(&d, x.b))
		}
	}
	for code, least := range map[int]int{0: 20, 1: 3, 2: 5, 4: 30, 5: 8, 6: 8, 7: 6} {
		if codes[code] < least {
			t.Error(code, codes[code])
		}
	}
}

// checkFedBytes feeds any bytes: behind each piece all is as SegsSoFar tells it,
// and at the end as if they had come at once.
func checkFedBytes(t *testing.T, what string, b []byte, pieces [][]byte) impl.Feed {
	t.Helper()
	f := impl.Feed{}
	for _, piece := range pieces {
		want := f
		if f.Fault.Code == 0 {
			want = toldFeed(slices.Concat(f.Bytes, piece))
		}
		f = impl.Push(f, piece)
		if !sameFeed(f, want) || !impl.FeedOk(f) {
			t.Fatalf("%s: %s, and not %s", what, feedShown(f), feedShown(want))
		}
	}
	list, over, fault := impl.SegsSoFar(b)
	if len(b) <= 60000 && (f.Whole != len(list) || f.Over != over || f.Fault != fault) {
		t.Fatalf("%s, in %d pieces: %s, and at once %d, %v, %v", what, len(pieces), feedShown(f), len(list), over, fault)
	}
	if f.Fault.Code == 0 && !bytes.Equal(f.Bytes, b) {
		t.Fatalf("%s, in %d pieces: %d bytes of %d", what, len(pieces), len(f.Bytes), len(b))
	}
	s, g := impl.FeedEnd(f)
	want, h := impl.ReadStream(b)
	if len(b) <= 60000 && (g != h || !sameStream(s, want)) {
		t.Fatalf("%s, in %d pieces: fault %v, and at once %v", what, len(pieces), g, h)
	}
	return f
}

// toldFeed is the Feed of bytes by what SegsSoFar tells of them.
func toldFeed(b []byte) impl.Feed {
	if len(b) > 60000 {
		return fullFeed()
	}
	list, over, fault := impl.SegsSoFar(b)
	return impl.Feed{Bytes: b, Whole: len(list), Over: over, Fault: fault}
}

// Bytes that are no segments, or other ones: cut at each place, with bytes that
// were turned, with more behind them, and drawn ones.
func TestOtherBytesFed(t *testing.T) {
	d := dice(2005)
	codes := map[int]int{}
	try := func(what string, b []byte) {
		checkSoFar(t, what, b)
		codes[checkFedBytes(t, what, b, drawnPieces(&d, b)).Fault.Code]++
	}
	for range 1500 {
		b := segsText(thrownSegs(&d, d.below(6)))
		cut := d.below(len(b))
		try("cut", b[:cut])
		try("longer", slices.Concat(b, bytesThrown(&d, 1+d.below(3))))
		for range 1 + d.below(2) {
			b[d.below(len(b))] = []byte{255, 0, 254, 240, 1, 84, 83, byte(d.below(256))}[d.below(8)]
		}
		try("turned", b)
		try("turned and cut", b[:d.below(len(b)+1)])
		try("drawn", bytesThrown(&d, d.below(9)))
		try("inner bytes", stream(bytesThrown(&d, d.below(9))...))
	}
	for code, least := range map[int]int{0: 2000, 2: 500, 4: 1000, 5: 30, 7: 1200} {
		if codes[code] < least {
			t.Error(code, codes[code])
		}
	}
	for range 60 {
		b := segsText(thrownSegs(&d, 1+d.below(4)))
		b[d.below(len(b))] = byte(d.below(256))
		b = append(b, bytesThrown(&d, d.below(2))...)
		checkFedBytes(t, "byte by byte", b, onePieces(b))
		for n := range b {
			checkFedBytes(t, "halves", b, [][]byte{b[:n], b[n:]})
			checkFedBytes(t, "a beginning", b[:n], [][]byte{b[:n]})
		}
	}
}

// The same of streams: what is read of them at the end is read as at once.
func TestOtherStreamsFed(t *testing.T) {
	d := dice(2006)
	codes := map[int]int{}
	try := func(what string, b []byte) {
		codes[checkEnd(t, what, checkFedBytes(t, what, b, drawnPieces(&d, b))).Code]++
	}
	for range 60 {
		s := anyStream(&d, d.below(3))
		b := impl.WriteStream(s)
		try("cut", b[:d.below(len(b))])
		try("without half of the end", b[:len(b)-1])
		try("longer", slices.Concat(b, bytesThrown(&d, 1+d.below(900))))
		try("twice", slices.Concat(b, b))
		try("turned", turnedBytes(&d, b))
		try("turned segments", segsText(turnedSegs(&d, streamParts(s))))
	}
	for mode := range 2 {
		s := parted(mode)
		for _, x := range flawsOf(s) {
			b := segsText(x.put(streamParts(s)))
			try(x.what, b)
			f := impl.Push(impl.Feed{}, b)
			if f.Fault.Code != 0 || !f.Over {
				t.Fatalf("%s: %s", x.what, feedShown(f))
			}
			if g, fault := impl.FeedEnd(f); fault != (impl.Fault{Code: x.code, At: x.at}) || !isZeroStream(g) {
				t.Fatalf("%s: %v", x.what, fault)
			}
		}
	}
	for _, code := range []int{0, 3, 7, 11, 12, 13, 14, 15} {
		if codes[code] == 0 {
			t.Error(code)
		}
	}
	// Each place where a stream may be cut, and where it is read no further.
	b := impl.WriteStream(parted(1))
	for n := range b {
		f := impl.Push(impl.Feed{}, b[:n])
		want := impl.Fault{Code: 3, At: n}
		if n < 2 {
			want = impl.Fault{Code: 2}
		}
		if s, fault := impl.FeedEnd(f); fault != want || !isZeroStream(s) || f.Over || f.Fault.Code != 0 {
			t.Fatalf("cut at %d: %v, %s", n, fault, feedShown(f))
		}
	}
}

// feedsToTry are FeedOk.
func feedsToTry(t *testing.T) map[string]impl.Feed {
	t.Helper()
	b := impl.WriteStream(handStream())
	m := map[string]impl.Feed{"full": fullFeed()}
	for what, text := range map[string][]byte{
		"nothing":               nil,
		"84":                    {84},
		"the beginning":         []byte("TS"),
		"half of a part":        b[:9],
		"a part":                b[:14],
		"run data":              b[:len(b)-2],
		"half of the end":       b[:len(b)-1],
		"a stream":              b,
		"a rest":                slices.Concat(b, []byte{7, 8}),
		"no picture":            stream(255, 7, 0, 0),
		"no beginning":          {83, 84},
		"no segment":            []byte("TS\xff\x07\x00\x00\xff\xfd"),
		"a long part":           []byte("TS\xff\x07\x4e\x21\x05"),
		"one segment too many":  segsText(manySegs(301)),
		"MaxBytes":              segsText(longSegs(impl.MaxBytes)),
		"MaxBytes, no end":      slices.Concat(headOf(longSegs(impl.MaxBytes-8)), []byte{255, 7, 0, 16}, sevens(6)),
		"MaxBytes, with a rest": append(segsText(longSegs(impl.MaxBytes-1)), 7),
		"MaxBytes of noughts":   make([]byte, impl.MaxBytes),
	} {
		f := impl.Push(impl.Feed{}, text)
		if !bytes.Equal(f.Bytes, text) {
			t.Fatal(what, feedShown(f))
		}
		m[what] = f
	}
	return m
}

// isEmptyFeed tells whether a Feed is one of the two without a byte.
func isEmptyFeed(f impl.Feed) bool { return sameFeed(f, impl.Feed{}) || sameFeed(f, fullFeed()) }

func TestFeedsAreOk(t *testing.T) {
	checkFeedOk(t, "the zero Feed", impl.Feed{}, true)
	checkFeedOk(t, "the zero Feed with an empty list", impl.Feed{Bytes: []byte{}}, true)
	for what, f := range feedsToTry(t) {
		checkFeedOk(t, what, f, true)
		checkFeedOk(t, what+", with room behind it", impl.Feed{Bytes: append(bytes.Clone(f.Bytes), 7, 8)[:len(f.Bytes)], Whole: f.Whole, Over: f.Over, Fault: f.Fault}, true)
		changes := map[string]func(f *impl.Feed){
			"Over":  func(f *impl.Feed) { f.Over = !f.Over },
			"Fault": func(f *impl.Feed) { f.Fault = impl.Fault{Code: f.Fault.At + 1, At: f.Fault.Code} },
		}
		for _, by := range append(far(), 1, 2, 300) {
			changes["Whole, by "+strconv.Itoa(by)] = func(f *impl.Feed) { f.Whole += by }
			changes["Code, by "+strconv.Itoa(by)] = func(f *impl.Feed) { f.Fault.Code += by }
			changes["At, by "+strconv.Itoa(by)] = func(f *impl.Feed) { f.Fault.At += by }
		}
		for name, change := range changes {
			x := cloneFeed(f)
			change(&x)
			checkFeedOk(t, what+", another "+name, x, isEmptyFeed(x))
		}
		for code := range 25 {
			x := cloneFeed(f)
			x.Fault.Code = code
			checkFeedOk(t, what+", Code "+strconv.Itoa(code), x, code == f.Fault.Code || isEmptyFeed(x))
		}
	}
}

// A byte more or less, or another one, and what is told of them stays.
func TestFeedsOfOtherBytes(t *testing.T) {
	ok := 0
	for what, f := range feedsToTry(t) {
		x := cloneFeed(f)
		x.Bytes = append(x.Bytes, 255)
		if impl.FeedOk(x) != feedRule(x) {
			t.Fatalf("%s, a byte more: %s", what, feedShown(x))
		}
		if len(f.Bytes) == 0 {
			continue
		}
		x.Bytes = x.Bytes[:len(f.Bytes)-1]
		if impl.FeedOk(x) != feedRule(x) {
			t.Fatalf("%s, a byte less: %s", what, feedShown(x))
		}
		for _, at := range []int{0, 1, 2, 3, 4, 5, 6, len(f.Bytes) / 2, len(f.Bytes) - 2, len(f.Bytes) - 1} {
			for _, n := range []byte{0, 1, 83, 84, 253, 254, 255} {
				x := cloneFeed(f)
				if at < 0 || at >= len(x.Bytes) || len(x.Bytes) > 9000 && (n > 1 || at > 6) {
					continue
				}
				x.Bytes[at] = n
				if impl.FeedOk(x) != feedRule(x) {
					t.Fatalf("%s, byte %d is %d: %s: FeedOk is %v", what, at, n, feedShown(x), impl.FeedOk(x))
				}
				if impl.FeedOk(x) && f.Bytes[at] != n {
					ok++
				}
			}
		}
	}
	if ok < 50 {
		t.Error(ok)
	}
}

// wrongFeeds are not FeedOk.
func wrongFeeds() map[string]impl.Feed {
	full, more := segsText(longSegs(impl.MaxBytes)), segsText(longSegs(impl.MaxBytes+1))
	rest := impl.Fault{Code: 7, At: impl.MaxBytes}
	return map[string]impl.Feed{
		"Whole of nothing":               {Whole: 1},
		"Whole below 0":                  {Whole: -1},
		"the least Whole":                {Whole: math.MinInt},
		"Over of nothing":                {Over: true},
		"a Fault of nothing":             {Fault: impl.Fault{Code: 2}},
		"the end of nothing":             {Fault: impl.Fault{Code: 3}},
		"an At of nothing":               {Fault: impl.Fault{At: 1}},
		"a Code that is none":            {Fault: impl.Fault{Code: 8}},
		"a Code below 0":                 {Fault: impl.Fault{Code: -1}},
		"SgBytes, another At":            {Fault: impl.Fault{Code: 1, At: 1}},
		"SgBytes, At below 0":            {Fault: impl.Fault{Code: 1, At: -1}},
		"SgBytes, At MaxBytes":           {Fault: impl.Fault{Code: 1, At: impl.MaxBytes}},
		"SgBytes and Whole":              {Whole: 1, Fault: impl.Fault{Code: 1}},
		"SgBytes and Over":               {Over: true, Fault: impl.Fault{Code: 1}},
		"SgBytes and a byte":             {Bytes: []byte{84}, Fault: impl.Fault{Code: 1}},
		"SgBytes and a stream":           {Bytes: stream(), Fault: impl.Fault{Code: 1}},
		"SgBytes and what is told of it": {Bytes: stream(), Over: true, Fault: impl.Fault{Code: 1}},
		"SgBytes and MaxBytes":           {Bytes: full, Fault: impl.Fault{Code: 1}},
		"SgBytes and one more":           {Bytes: more, Fault: impl.Fault{Code: 1}},
		"SgBytes and far more":           {Bytes: make([]byte, 5*impl.MaxBytes), Fault: impl.Fault{Code: 1}},
		"one more, as if it were none":   {Bytes: more},
		"one more, as if it were whole":  {Bytes: more, Whole: 3, Over: true},
		"one more, as if it went on":     {Bytes: more, Whole: 3},
		"one more, as a rest":            {Bytes: append(bytes.Clone(full), 7), Whole: 3, Over: true, Fault: rest},
		"one more, no beginning":         {Bytes: make([]byte, impl.MaxBytes+1), Fault: impl.Fault{Code: 2}},
		"MaxBytes as if it were none":    {Bytes: full},
		"Whole of one byte":              {Bytes: []byte("T"), Whole: 1},
		"SgBegin of the beginning":       {Bytes: []byte("TS"), Fault: impl.Fault{Code: 2}},
		"a stream that is not over":      {Bytes: stream(255, 7, 0, 0), Whole: 1},
		"one that is over too early":     {Bytes: []byte("TS\xff\x07\x00\x00\xff"), Whole: 1, Over: true},
		"run data that are not whole":    {Bytes: []byte("TS\xff\x07\x00\x00\x05\xff"), Whole: 2},
		"the fault of the end":           {Bytes: []byte("TS\xff\x07\x00\x00"), Whole: 1, Fault: impl.Fault{Code: 3, At: 6}},
		"the fault of one byte":          {Bytes: []byte("T"), Fault: impl.Fault{Code: 2}},
		"no fault where one is":          {Bytes: []byte("TT")},
		"a fault and no segments":        {Bytes: []byte("TS\xff\x07\x00\x00\xff\xfd"), Fault: impl.Fault{Code: 4, At: 6}},
		"a rest that is not over":        {Bytes: append(stream(255, 7, 0, 0), 1), Whole: 1, Fault: impl.Fault{Code: 7, At: 8}},
	}
}

// isZeroFeed tells whether nothing at all is told.
func isZeroFeed(f impl.Feed) bool {
	return cap(f.Bytes) == 0 && f.Whole == 0 && !f.Over && f.Fault == (impl.Fault{})
}

// Into a Feed that is none nothing is pushed: the zero Feed is told, whatever
// comes. What comes behind it is told as from the beginning.
func TestFeedsThatAreNotOk(t *testing.T) {
	b := impl.WriteStream(handStream())
	for what, f := range wrongFeeds() {
		checkFeedOk(t, what, f, false)
		for _, chunk := range [][]byte{nil, {}, {1}, {83}, {84}, []byte("TS"), []byte("TS\xff"), stream(), stream(255, 7, 0, 0), b, b[2:], make([]byte, impl.MaxBytes), make([]byte, impl.MaxBytes+1)} {
			got := checkPush(t, what, f, chunk)
			if !isZeroFeed(got) {
				t.Fatalf("%s, and %d bytes: %s", what, len(chunk), feedShown(got))
			}
			if next := impl.Push(got, chunk); !sameFeed(next, ruleFeed(chunk)) && len(chunk) < 9000 {
				t.Fatalf("%s, and %d bytes twice: %s", what, len(chunk), feedShown(next))
			}
		}
		if s, fault := impl.FeedEnd(f); fault != (impl.Fault{Code: 2}) || !isZeroStream(s) {
			t.Fatalf("%s: %v", what, fault)
		}
	}
}

// A Feed may tell already what its bytes tell with the piece behind them: it is
// not FeedOk, and the piece does not mend it.
func TestPiecesThatAFeedTellsAheadOfThem(t *testing.T) {
	x := feeding([]impl.Seg{segPart(7, 1), segRun(5, 6), segRestart(240), segRun(8)})
	for n := range len(x.text) + 1 {
		for m := n + 1; m <= len(x.text); m++ {
			f := x.upTo(m)
			f.Bytes = x.text[:n]
			ok := sameFeed(f, x.upTo(n))
			checkFeedOk(t, "told ahead", f, ok)
			want := impl.Feed{}
			if ok {
				want = x.upTo(m)
			}
			if got := checkPush(t, "told ahead", f, x.text[n:m]); !sameFeed(got, want) {
				t.Fatalf("%d of %d bytes: %s, and not %s", n, m, feedShown(got), feedShown(want))
			}
		}
	}
}

func TestPushIntoFeeds(t *testing.T) {
	for what, f := range feedsToTry(t) {
		for _, chunk := range [][]byte{nil, {}, {0}, {255}, {254}, {83}, []byte("TS"), stream(), sevens(300), make([]byte, impl.MaxBytes), make([]byte, impl.MaxBytes+1)} {
			got := impl.Push(f, chunk)
			want := f
			if f.Fault.Code == 0 {
				want = toldFeed(slices.Concat(f.Bytes, chunk))
			}
			if !sameFeed(got, want) || !impl.FeedOk(got) {
				t.Fatalf("%s, and %d bytes: %s, and not %s", what, len(chunk), feedShown(got), feedShown(want))
			}
		}
	}
}

// With a fault a Feed stays what it is, whatever comes.
func TestPushIntoFeedsWithAFault(t *testing.T) {
	faults := 0
	for what, f := range feedsToTry(t) {
		if f.Fault.Code == 0 {
			continue
		}
		faults++
		for _, chunk := range [][]byte{nil, {}, {84}, stream(), f.Bytes, make([]byte, impl.MaxBytes), make([]byte, 9*impl.MaxBytes)} {
			if got := checkPush(t, what, f, chunk); !sameFeed(got, f) {
				t.Fatalf("%s, and %d bytes: %s", what, len(chunk), feedShown(got))
			}
		}
		if s, fault := impl.FeedEnd(f); fault != f.Fault || !isZeroStream(s) {
			t.Fatalf("%s: %v", what, fault)
		}
	}
	if faults < 8 {
		t.Error(faults)
	}
}

// checkKept asks for the Feed that has just been given so many bytes.
func checkKept(t *testing.T, what string, f impl.Feed, b []byte, code, at int) {
	t.Helper()
	want := impl.Feed{Bytes: b, Fault: impl.Fault{Code: code, At: at}}
	if code == 1 {
		want.Bytes = nil
	}
	got := f
	got.Whole, got.Over = 0, false
	if !sameFeed(got, want) || !impl.FeedOk(f) || code == 1 && !sameFeed(f, fullFeed()) {
		t.Fatalf("%s: %s, and not %s", what, feedShown(f), feedShown(want))
	}
}

// Just MaxBytes bytes are taken, and with one more nothing is left of them.
func TestFeedsOfManyBytes(t *testing.T) {
	whole, longer := segsText(longSegs(impl.MaxBytes)), segsText(longSegs(impl.MaxBytes+1))
	short := segsText(longSegs(impl.MaxBytes - 1))
	run := slices.Concat([]byte("TS\xff\x07\x00\x00"), sevens(9000))
	for _, x := range []struct {
		what     string
		b        []byte
		code, at int
	}{
		{"MaxBytes", whole, 0, 0},
		{"one more", longer, 1, 0},
		{"one more behind the end", append(bytes.Clone(whole), 0), 1, 0},
		{"MaxBytes with a rest", append(bytes.Clone(short), 0), 7, impl.MaxBytes - 1},
		{"one more, with a rest of one", append(bytes.Clone(whole), 255), 1, 0},
		{"MaxBytes that go on", longer[:impl.MaxBytes], 0, 0},
		{"run data", slices.Concat(whole[:impl.MaxBytes-2-9000], run[6:]), 0, 0},
	} {
		checkKept(t, x.what, impl.Push(impl.Feed{}, x.b), min60000(x.b), x.code, x.at)
		for _, size := range []int{1, 999, 1000, 7000, 30000, 59999, 60000} {
			from := 0
			if size == 1 {
				from = len(x.b) - 30
			}
			f := impl.Push(impl.Feed{}, x.b[:from])
			for piece := range slices.Chunk(x.b[from:], size) {
				f = impl.Push(f, piece)
			}
			checkKept(t, x.what+", in pieces of "+strconv.Itoa(size), f, min60000(x.b), x.code, x.at)
		}
	}
	for _, n := range []int{1, 2, 1000, impl.MaxBytes, 100 * impl.MaxBytes} {
		what := strconv.Itoa(n) + " beyond"
		near := impl.Push(impl.Feed{}, whole[:impl.MaxBytes-1])
		checkKept(t, what, near, whole[:impl.MaxBytes-1], 0, 0)
		checkKept(t, what, impl.Push(near, whole[impl.MaxBytes-1:]), whole, 0, 0)
		checkKept(t, what, impl.Push(near, make([]byte, n+1)), nil, 1, 0)
		just := impl.Push(near, whole[impl.MaxBytes-1:])
		checkKept(t, what, impl.Push(just, nil), whole, 0, 0)
		checkKept(t, what, impl.Push(just, make([]byte, n)), nil, 1, 0)
		checkKept(t, what, impl.Push(impl.Feed{}, make([]byte, impl.MaxBytes+n)), nil, 1, 0)
		none := impl.Push(impl.Feed{}, make([]byte, impl.MaxBytes))
		checkKept(t, what, none, make([]byte, impl.MaxBytes), 2, 0)
		checkKept(t, what, impl.Push(none, make([]byte, n)), make([]byte, impl.MaxBytes), 2, 0)
		full := impl.Push(just, make([]byte, n))
		checkKept(t, what, pushAll(full, nil, []byte{84}, whole, make([]byte, n)), nil, 1, 0)
		if s, fault := impl.FeedEnd(full); fault != (impl.Fault{Code: 1}) || !isZeroStream(s) {
			t.Fatal(fault)
		}
	}
	if f := impl.Push(impl.Feed{}, whole); f.Whole != 3 || !f.Over {
		t.Fatal(feedShown(f))
	}
}

// min60000 are bytes that a Feed may keep.
func min60000(b []byte) []byte { return b[:min(len(b), 60000)] }

// Streams of as many bytes, and of as many segments, as there may be are fed
// and read.
func TestGreatStreamsFed(t *testing.T) {
	d := dice(2007)
	s := filledStream(7936, 0)
	s.Note = sevens(impl.MaxBytes - len(impl.WriteStream(s)) - 4)
	b := impl.WriteStream(s)
	if len(b) != impl.MaxBytes {
		t.Fatal(len(b))
	}
	checkFedStream(t, &d, "MaxBytes", s, b, 0)
	if f := pushAll(impl.Feed{}, b[:30000], b[30000:], []byte{255}); !sameFeed(f, fullFeed()) {
		t.Fatal(feedShown(f))
	}
	for mode := range 2 {
		s := plainStream(rowsOf(21, 7, 1), 1)
		s.Mode, s.Coefs, s.Note = mode, sparseCoefs(&d, s.Frame, 2, 3), sevens(1)
		b := impl.WriteStream(s)
		checkFedStream(t, &d, "MaxSegs", s, b, 0)
		if f := impl.Push(impl.Feed{}, b); f.Whole != impl.MaxSegs {
			t.Fatal(feedShown(f))
		}
	}
}

func TestFeedEnd(t *testing.T) {
	s := handStream()
	b := impl.WriteStream(s)
	f := impl.Push(impl.Feed{}, b)
	if got, fault := impl.FeedEnd(f); fault != (impl.Fault{}) || !sameStream(got, s) {
		t.Fatal(got, fault)
	}
	for what, f := range feedsToTry(t) {
		fault := checkEnd(t, what, f)
		if _, at := impl.ReadStream(f.Bytes); what != "full" && fault != at {
			t.Fatal(what, fault, at)
		}
	}
	for what, x := range map[string]struct {
		f        impl.Feed
		code, at int
	}{
		"the zero Feed":              {impl.Feed{}, 2, 0},
		"84":                         {impl.Feed{Bytes: []byte{84}}, 2, 0},
		"the beginning":              {impl.Feed{Bytes: []byte("TS")}, 3, 2},
		"no segments":                {impl.Feed{Bytes: stream(), Over: true}, 11, 0},
		"no segments, not over":      {impl.Feed{Bytes: stream()}, 2, 0},
		"a rest":                     {impl.Feed{Bytes: append(stream(), 1), Over: true, Fault: impl.Fault{Code: 7, At: 4}}, 7, 4},
		"a rest of which naught is":  {impl.Feed{Bytes: append(stream(), 1), Over: true}, 2, 0},
		"SgBytes":                    {fullFeed(), 1, 0},
		"SgBytes of a stream":        {impl.Feed{Bytes: b, Fault: impl.Fault{Code: 1}}, 2, 0},
		"a stream, a segment less":   {impl.Feed{Bytes: b, Whole: f.Whole - 1, Over: true}, 2, 0},
		"a stream, not over":         {impl.Feed{Bytes: b, Whole: f.Whole}, 2, 0},
		"a stream with a fault":      {impl.Feed{Bytes: b, Whole: f.Whole, Over: true, Fault: impl.Fault{Code: 7, At: 1}}, 2, 0},
		"a stream with an At":        {impl.Feed{Bytes: b, Whole: f.Whole, Over: true, Fault: impl.Fault{At: 1}}, 2, 0},
		"a stream without its end":   {impl.Feed{Bytes: b[:len(b)-2], Whole: f.Whole - 1}, 3, len(b) - 2},
		"more than MaxBytes, a rest": {impl.Feed{Bytes: slices.Concat(b, make([]byte, impl.MaxBytes)), Whole: f.Whole, Over: true, Fault: impl.Fault{Code: 7, At: len(b)}}, 2, 0},
	} {
		if got := checkEnd(t, what, x.f); got != (impl.Fault{Code: x.code, At: x.at}) {
			t.Errorf("%s: %v", what, got)
		}
	}
}

// wildFeed is any Feed, FeedOk or not.
func wildFeed(d *dice) impl.Feed {
	b := segsText(thrownSegs(d, d.below(4)))
	b = slices.Concat(b[:d.below(len(b)+1)], bytesThrown(d, d.below(2)))
	f := ruleFeed(b)
	if d.below(6) == 0 {
		f = fullFeed()
	}
	n := append(far(), 0, 1, 2, 3, 4, 5, 6, 7, 8)[d.below(22)]
	for range d.below(2) {
		switch d.below(6) {
		case 0:
			f.Bytes = bytesThrown(d, d.below(5))
		case 1:
			f.Whole = n
		case 2:
			f.Over = !f.Over
		case 3:
			f.Fault.Code = n
		case 4:
			f.Fault.At = n
		case 5:
			f = impl.Feed{Whole: f.Whole, Fault: impl.Fault{Code: n}}
		}
	}
	return f
}

// None of the functions panics, and all answer by the rule.
func TestFeedingOfAnyArgument(t *testing.T) {
	d := dice(2008)
	ok := 0
	for range 4000 {
		f := wildFeed(&d)
		if feedRule(f) {
			ok++
		}
		checkFeedOk(t, "wild", f, feedRule(f))
		checkEnd(t, "wild", f)
		chunk := segsText(thrownSegs(&d, d.below(3)))
		checkPush(t, "wild", f, chunk[:d.below(len(chunk)+1)])
		checkPush(t, "wild", f, chunk[2:])
		checkSoFar(t, "wild", f.Bytes)
	}
	if !between(2000, 3500, ok) {
		t.Fatal(ok)
	}
}

// guardFeed is a Feed with room behind its bytes.
func guardFeed(f impl.Feed, behind ...byte) (impl.Feed, guarded[byte]) {
	g := guard(f.Bytes, behind...)
	f.Bytes = g.list
	return f, g
}

// checkFeedLeft calls all functions with room behind all bytes, and asks that it
// stays as it was, and that they answer as without it.
func checkFeedLeft(t *testing.T, what string, f impl.Feed, chunk []byte) {
	t.Helper()
	want := impl.Push(cloneFeed(f), bytes.Clone(chunk))
	for _, behind := range [][]byte{nil, {255, 254}, {254}, {0}, {83}, {255, 1, 0, 0}, make([]byte, 3000)} {
		x, g := guardFeed(f, behind...)
		h := guard(chunk, behind...)
		if impl.FeedOk(x) != impl.FeedOk(f) {
			t.Fatalf("%s: FeedOk is another one with other room", what)
		}
		checkSoFar(t, what, x.Bytes)
		checkSoFar(t, what, h.list)
		checkEnd(t, what, x)
		got := impl.Push(x, h.list)
		if !sameFeed(got, want) {
			t.Fatalf("%s: another Feed with other room: %s, and not %s", what, feedShown(got), feedShown(want))
		}
		g.check(t, what)
		h.check(t, what)
		// The answer lies elsewhere, and so does the room behind it.
		scribble(got.Bytes, 171)
		g.check(t, what+", the answer written over")
		h.check(t, what+", the answer written over")
	}
}

func TestFeedingLeavesArguments(t *testing.T) {
	d := dice(2009)
	for range 300 {
		checkFeedLeft(t, "wild", wildFeed(&d), bytesThrown(&d, d.below(5)))
		b := segsText(thrownSegs(&d, 4))
		cut := d.below(len(b) + 1)
		checkFeedLeft(t, "halves", impl.Push(impl.Feed{}, b[:cut]), b[cut:])
	}
	for what, f := range feedsToTry(t) {
		if len(f.Bytes) < 9000 {
			checkFeedLeft(t, what, f, []byte{255, 254})
		}
	}
	for what, f := range wrongFeeds() {
		if len(f.Bytes) < 9000 {
			checkFeedLeft(t, what, f, stream(255, 7, 0, 0))
		}
	}
	for mode := range 2 {
		b := impl.WriteStream(parted(mode))
		checkFeedLeft(t, "a stream", impl.Push(impl.Feed{}, b[:900]), b[900:])
	}
}

// A piece may be part of the Feed into which it is pushed.
func TestPiecesOfTheFeedItself(t *testing.T) {
	b := stream(255, 7, 0, 1, 5, 9, 255, 0, 255, 240, 8)
	for n := range len(b) + 1 {
		for from := range n + 1 {
			f := impl.Push(impl.Feed{}, b[:n])
			was := cloneFeed(f)
			checkPush(t, "its own bytes", f, f.Bytes[from:])
			checkPush(t, "its own bytes", f, f.Bytes[:from])
			// What lies in the room behind it is a piece too.
			room := impl.Feed{Bytes: bytes.Clone(b)[:n], Whole: f.Whole, Over: f.Over, Fault: f.Fault}
			checkPush(t, "the room behind it", room, room.Bytes[from:len(b)])
			if !sameFeed(f, was) {
				t.Fatal(n, from)
			}
		}
	}
}

// Two pieces are pushed behind one and the same Feed, and it stays as it was.
func TestTwoPiecesBehindOneFeed(t *testing.T) {
	d := dice(2010)
	for range 200 {
		b := segsText(thrownSegs(&d, 1+d.below(5)))
		f := impl.Push(impl.Feed{}, b[:d.below(len(b)+1)])
		was := cloneFeed(f)
		one, two := bytesThrown(&d, d.below(9)), b[d.below(len(b)):]
		x := impl.Push(f, one)
		kept := cloneFeed(x)
		y := impl.Push(f, two)
		if !sameFeed(x, kept) || !sameFeed(x, rulePush(was, one)) || !sameFeed(y, rulePush(was, two)) {
			t.Fatalf("%s: %s and %s", feedShown(f), feedShown(x), feedShown(y))
		}
		scribble(y.Bytes, 99)
		z := impl.Push(x, two)
		scribble(z.Bytes, 98)
		if !sameFeed(f, was) || !sameFeed(x, kept) {
			t.Fatalf("%s: it is another one, behind what was pushed", feedShown(was))
		}
	}
}

// Each answer is asked for twice, one of them and the arguments written over.
func TestFeedsAreNewMemory(t *testing.T) {
	d := dice(2011)
	for range 300 {
		f, chunk := wildFeed(&d), bytesThrown(&d, d.below(6))
		own, piece := cloneFeed(f), bytes.Clone(chunk)
		want := rulePush(f, chunk)
		x, y := impl.Push(own, piece), impl.Push(own, piece)
		scribble(y.Bytes, 99)
		if !sameFeed(own, f) || !bytes.Equal(piece, chunk) {
			t.Fatal("an answer shares memory with an argument")
		}
		scribble(own.Bytes, 98)
		scribble(piece, 97)
		if !sameFeed(x, want) {
			t.Fatal("an answer shares memory with an argument or with another one")
		}
	}
	for range 300 {
		b := segsText(thrownSegs(&d, d.below(9)))
		b = slices.Concat(b, bytesThrown(&d, d.below(2)))
		b = b[:d.below(len(b)+1)]
		own := bytes.Clone(b)
		want, _, _ := ruleSoFar(b)
		x, _, _ := impl.SegsSoFar(own)
		y, _, _ := impl.SegsSoFar(own)
		if !ownBytes(y) {
			t.Fatal("two lists of one answer share memory")
		}
		scribble(y, segPart(99, 99))
		if !bytes.Equal(own, b) {
			t.Fatal("an answer shares memory with the bytes")
		}
		scribble(own, 98)
		if !sameSegs(x, want) {
			t.Fatal("an answer shares memory with the bytes or with another one")
		}
	}
	// Run data that are not whole are not handed out, nor in the room behind.
	list, _, _ := impl.SegsSoFar([]byte("TS\xff\x07\x00\x00\x05"))
	for _, s := range list[:cap(list)][len(list):] {
		if s.Mark != 0 || len(s.Data) > 0 {
			t.Fatal(s)
		}
	}
}

func TestFeedEndIsNewMemory(t *testing.T) {
	d := dice(2012)
	for range 30 {
		s := anyStream(&d, d.below(20))
		b := impl.WriteStream(s)
		f := impl.Push(impl.Feed{}, b)
		x, _ := impl.FeedEnd(f)
		y, _ := impl.FeedEnd(f)
		if !ownLists(y) {
			t.Fatal("two lists of one answer share memory")
		}
		if !bytes.Equal(f.Bytes, b) {
			t.Fatal("what was read shares memory with the Feed")
		}
		scribble(f.Bytes, 98)
		if !sameStream(x, s) {
			t.Fatal("what was read shares memory with the Feed or with another answer")
		}
	}
}

// feedAsked is a Feed and a piece, and what was answered.
type feedAsked struct {
	f      impl.Feed
	chunk  []byte
	ok     bool
	pushed impl.Feed
	segs   []impl.Seg
	over   bool
	met    impl.Fault
	s      impl.Stream
	fault  impl.Fault
}

// same tells whether all functions answer as before.
func (a feedAsked) same() bool {
	segs, over, met := impl.SegsSoFar(a.f.Bytes)
	s, fault := impl.FeedEnd(a.f)
	return impl.FeedOk(a.f) == a.ok && sameFeed(impl.Push(a.f, a.chunk), a.pushed) &&
		sameSegs(segs, a.segs) && over == a.over && met == a.met && sameStream(s, a.s) && fault == a.fault
}

// feedsAsked are some that are not FeedOk, some with a fault, and streams.
func feedsAsked(d *dice) []feedAsked {
	var list []feedAsked
	for i := range 40 {
		a := feedAsked{f: wildFeed(d), chunk: segsText(thrownSegs(d, 2))[d.below(5):]}
		if i%4 == 0 {
			b := impl.WriteStream(anyStream(d, i))
			cut := []int{len(b), d.below(len(b)), len(b) - 1}[d.below(3)]
			a.f, a.chunk = ruleFeed(b[:cut]), b[cut:]
		}
		a.ok, a.pushed = feedRule(a.f), rulePush(a.f, a.chunk)
		a.segs, a.over, a.met = ruleSoFar(a.f.Bytes)
		a.s, a.fault = ruleFeedEnd(a.f)
		list = append(list, a)
	}
	return append(list, feedAsked{f: fullFeed(), chunk: sevens(9), ok: true, pushed: fullFeed(), fault: impl.Fault{Code: 1}})
}

// The same arguments give the same answers, whatever was asked for between,
// however the goroutines inside run, on one thread and on many, and asked from
// many goroutines at once, also of one and the same Feed.
func TestFeedingAtOnce(t *testing.T) {
	d := dice(2013)
	list := feedsAsked(&d)
	was := runtime.GOMAXPROCS(0)
	defer runtime.GOMAXPROCS(was)
	for _, threads := range []int{1, 2, was, 4 * was} {
		runtime.GOMAXPROCS(threads)
		for range 3 {
			slices.Reverse(list)
			for _, a := range list {
				if !a.same() {
					t.Fatalf("%d threads: other answers: %s", threads, feedShown(a.f))
				}
			}
		}
	}
	b := impl.WriteStream(handStream())
	half := impl.Push(impl.Feed{}, b[:300])
	var all sync.WaitGroup
	for i := range 8 {
		all.Add(1)
		go func() {
			defer all.Done()
			for _, a := range list {
				if !a.same() {
					t.Errorf("at once: other answers: %s", feedShown(a.f))
				}
			}
			for n := range 60 {
				x := impl.Push(half, b[300:300+n+i])
				if !bytes.Equal(x.Bytes, b[:300+n+i]) {
					t.Errorf("at once: another Feed: %s", feedShown(x))
				}
				scribble(x.Bytes, byte(i))
			}
		}()
	}
	all.Wait()
	if !bytes.Equal(half.Bytes, b[:300]) {
		t.Error("a Feed was written into")
	}
}

// No goroutine is left behind, also where nothing is taken.
func TestFeedingLeavesNoGoroutine(t *testing.T) {
	d := dice(2014)
	list := feedsAsked(&d)
	was := runtime.NumGoroutine()
	for range 20 {
		for _, a := range list {
			if !a.same() {
				t.Fatal(feedShown(a.f))
			}
		}
		for _, f := range wrongFeeds() {
			impl.Push(f, []byte{84})
		}
	}
	for range 200 {
		if runtime.NumGoroutine() <= was {
			return
		}
		time.Sleep(10 * time.Millisecond)
	}
	t.Fatal(was, runtime.NumGoroutine())
}
