package tests

import (
	"bytes"
	"slices"
	"strconv"
	"sync"
	"testing"

	"loop.example/g00139/impl"
)

func sameStream(a, b impl.Stream) bool {
	return sameFrame(a.Frame, b.Frame) && sameBlocks(a.Tables, b.Tables) && sameCoefs(a.Coefs, b.Coefs) &&
		a.Mode == b.Mode && sameScript(a.Script, b.Script) && bytes.Equal(a.Note, b.Note)
}

func isZeroStream(s impl.Stream) bool { return sameStream(s, impl.Stream{}) }

func cloneStream(s impl.Stream) impl.Stream {
	out := impl.Stream{Frame: cloneFrame(s.Frame), Coefs: cloneCoefs(s.Coefs), Mode: s.Mode, Script: cloneScript(s.Script), Note: bytes.Clone(s.Note)}
	for _, q := range s.Tables {
		out.Tables = append(out.Tables, slices.Clone(q))
	}
	return out
}

// altered is a stream in new memory after a change.
func altered(s impl.Stream, change func(s *impl.Stream)) impl.Stream {
	s = cloneStream(s)
	change(&s)
	return s
}

// streamRule is StreamOk by the chapter's words.
func streamRule(s impl.Stream) bool {
	if !frameRule(s.Frame) || len(s.Tables) != 4 || !between(0, 1, s.Mode) || len(s.Note) > 1000 {
		return false
	}
	for _, q := range s.Tables {
		if !tableRule(q) {
			return false
		}
	}
	return ruleCoefs(s.Frame, s.Coefs) && tellsAll(ruleLeft(s.Frame, s.Script))
}

// ruleTablePart is the part of a table with this number.
func ruleTablePart(number int, q []int) impl.Seg {
	nums := []int{number}
	for _, place := range zigPlaces {
		nums = append(nums, q[place]/256, q[place]%256)
	}
	return segPart(2, bytesOf(nums)...)
}

// headParts are the segments ahead of the scans.
func headParts(s impl.Stream) []impl.Seg {
	segs := []impl.Seg{segPart(1, frameText(s.Frame)...)}
	for number, q := range s.Tables {
		segs = append(segs, ruleTablePart(number, q))
	}
	if len(s.Note) > 0 {
		segs = append(segs, segPart(3, bytes.Clone(s.Note)...))
	}
	return segs
}

// scanLists are the segments of each scan.
func scanLists(s impl.Stream) [][]impl.Seg {
	var lists [][]impl.Seg
	for _, scan := range s.Script {
		lists = append(lists, ruleSegs(s.Frame, s.Coefs, scan, s.Mode))
	}
	return lists
}

// streamParts are all segments of a stream by the chapter's words; nothing
// where those of a scan are nothing.
func streamParts(s impl.Stream) []impl.Seg {
	segs := headParts(s)
	for _, list := range scanLists(s) {
		if len(list) == 0 {
			return nil
		}
		segs = append(segs, list...)
	}
	return segs
}

// ruleStream is WriteStream by the chapter's words.
func ruleStream(s impl.Stream) []byte {
	if !streamRule(s) {
		return nil
	}
	segs := streamParts(s)
	if !between(1, 300, len(segs)) {
		return nil
	}
	if b := segsText(segs); len(b) <= 60000 {
		return b
	}
	return nil
}

// ruleReadTable is the table of segment at, if that is one.
func ruleReadTable(segs []impl.Seg, at int) ([]int, bool) {
	if at >= len(segs) || segs[at].Mark != 2 || len(segs[at].Data) != 129 || int(segs[at].Data[0]) != at-1 {
		return nil, false
	}
	q := make([]int, 64)
	for k, place := range zigPlaces {
		q[place] = 256*int(segs[at].Data[2*k+1]) + int(segs[at].Data[2*k+2])
	}
	return q, tableRule(q)
}

// ruleReadScans reads the scans from segment at on, and answers the fault.
func ruleReadScans(s *impl.Stream, segs []impl.Seg, at int) impl.Fault {
	s.Coefs = ruleEmpty(s.Frame)
	for at < len(segs) {
		c, scan, mode, n := impl.DecodeScan(s.Frame, s.Coefs, segs[at:])
		script := then(s.Script, scan)
		if n == 0 || len(script) > 1 && mode != s.Mode || len(ruleLeft(s.Frame, script)) == 0 {
			return impl.Fault{Code: 14, At: at}
		}
		s.Coefs, s.Mode, s.Script = c, mode, script
		at += n
	}
	if !tellsAll(ruleLeft(s.Frame, s.Script)) {
		return impl.Fault{Code: 15, At: len(segs)}
	}
	return impl.Fault{}
}

// ruleReadStream is ReadStream by the chapter's words.
func ruleReadStream(b []byte) (impl.Stream, impl.Fault) {
	segs, f := impl.ReadSegs(b)
	if f.Code != 0 {
		return impl.Stream{}, f
	}
	s, ok := impl.Stream{}, len(segs) > 0 && segs[0].Mark == 1
	if ok {
		s.Frame, ok = frameOfBytes(segs[0].Data)
	}
	if !ok {
		return impl.Stream{}, impl.Fault{Code: 11}
	}
	for at := 1; at <= 4; at++ {
		q, ok := ruleReadTable(segs, at)
		if !ok {
			return impl.Stream{}, impl.Fault{Code: 12, At: at}
		}
		s.Tables = append(s.Tables, q)
	}
	at := 5
	if len(segs) > 5 && segs[5].Mark == 3 {
		if !between(1, 1000, len(segs[5].Data)) {
			return impl.Stream{}, impl.Fault{Code: 13, At: 5}
		}
		s.Note, at = segs[5].Data, 6
	}
	if f := ruleReadScans(&s, segs, at); f.Code != 0 {
		return impl.Stream{}, f
	}
	return s, impl.Fault{}
}

// checkWritten holds WriteStream and StreamOk against the rule, and answers the
// bytes.
func checkWritten(t *testing.T, what string, s impl.Stream) []byte {
	t.Helper()
	if got := impl.StreamOk(s); got != streamRule(s) {
		t.Fatalf("%s, %v, %v: StreamOk is %v", what, s.Frame, s.Script, got)
	}
	want, got := ruleStream(s), impl.WriteStream(s)
	if !bytes.Equal(got, want) {
		t.Fatalf("%s, %v, %v, mode %d: %d bytes that are not the %d ones asked for", what, s.Frame, s.Script, s.Mode, len(got), len(want))
	}
	return got
}

// checkStreamBack asks for promise 15: what was written is read.
func checkStreamBack(t *testing.T, what string, s impl.Stream) []byte {
	t.Helper()
	b := checkWritten(t, what, s)
	if len(b) == 0 {
		t.Fatalf("%s, %v, %v, mode %d: nothing", what, s.Frame, s.Script, s.Mode)
	}
	x, f := impl.ReadStream(b)
	if f != (impl.Fault{}) || !sameStream(x, s) {
		t.Fatalf("%s, %v, %v, mode %d: read back as %v, %v, mode %d, fault %v", what, s.Frame, s.Script, s.Mode, x.Frame, x.Script, x.Mode, f)
	}
	return b
}

// checkNoStream asks that a stream is refused.
func checkNoStream(t *testing.T, what string, s impl.Stream) {
	t.Helper()
	if streamRule(s) || impl.StreamOk(s) {
		t.Fatalf("%s: taken", what)
	}
	if b := impl.WriteStream(s); len(b) != 0 {
		t.Fatalf("%s: %d bytes were written", what, len(b))
	}
}

// checkStreamFault asks for a fault, and that nothing else is answered.
func checkStreamFault(t *testing.T, what string, b []byte, code, at int) {
	t.Helper()
	s, f := impl.ReadStream(b)
	if f != (impl.Fault{Code: code, At: at}) {
		t.Fatalf("%s: fault %v, %d at %d is asked for", what, f, code, at)
	}
	if !isZeroStream(s) {
		t.Fatalf("%s: %v beside a fault", what, s)
	}
}

// checkAnyBytes holds ReadStream of any bytes against the rule, and asks for
// promise 15 of what was read; it answers the fault's code.
func checkAnyBytes(t *testing.T, what string, b []byte) int {
	t.Helper()
	want, fault := ruleReadStream(b)
	if fault.Code != 0 {
		checkStreamFault(t, what, b, fault.Code, fault.At)
		return fault.Code
	}
	s, f := impl.ReadStream(b)
	if f != fault || !sameStream(s, want) {
		t.Fatalf("%s: %v, %v, fault %v, and not %v, %v", what, s.Frame, s.Script, f, want.Frame, want.Script)
	}
	if !impl.StreamOk(s) || !streamRule(s) {
		t.Fatalf("%s: what was read is not ok: %v, %v", what, s.Frame, s.Script)
	}
	again := impl.WriteStream(s)
	if x, f := impl.ReadStream(again); f.Code != 0 || !sameStream(x, s) {
		t.Fatalf("%s: written again (%d bytes) and read again it is another one, fault %v", what, len(again), f)
	}
	return 0
}

// fourTables are tables that are all different.
func fourTables() [][]int {
	return [][]int{impl.Plain(0), impl.Plain(1), steps(960, 1023), cycled(64, 1, 1023, 256, 255, 511)}
}

// plainStream is a stream of noughts with a script of this kind.
func plainStream(f impl.Frame, kind int) impl.Stream {
	return impl.Stream{Frame: f, Tables: fourTables(), Coefs: impl.EmptyCoefs(f), Script: impl.ScriptFor(f, kind)}
}

// segsFor is how many segments a stream has, without a note.
func segsFor(f impl.Frame, script []impl.Scan) int {
	n := 5
	for _, s := range script {
		n += 2 * len(ruleStretches(f, s.Comps))
	}
	return n
}

// drawnStream is a stream that can be written: Restart is made greater where
// there would be too many segments. Kind 3 is a drawn script.
func drawnStream(d *dice, shares [][2]int, mode, kind, restart, note int) impl.Stream {
	f := shared(1+d.below(24), 1+d.below(24), shares...)
	f.Prec, f.Restart = 8+4*d.below(2), restart
	s := impl.Stream{Mode: mode, Note: bytesThrown(d, note)}
	if kind < 3 {
		s.Script = impl.ScriptFor(f, kind)
	} else {
		s.Script = wholeScript(d, f)
	}
	for f.Restart > 0 && segsFor(f, s.Script) > 299 {
		f.Restart++
	}
	s.Frame, s.Coefs = f, drawnCoefs(d, f)
	for range 4 {
		s.Tables = append(s.Tables, thrown(d, 64, 1, []int{9, 300, impl.MaxStep}[d.below(3)]))
	}
	return s
}

// sharesOf are the H and V of frames of n components.
func sharesOf(n int) [][][2]int {
	var list [][][2]int
	for _, x := range allShares() {
		if len(x) == n {
			list = append(list, x)
		}
	}
	return list
}

// anyStream is a drawn stream of any kind.
func anyStream(d *dice, note int) impl.Stream {
	list := sharesOf(1 + d.below(4))
	return drawnStream(d, list[d.below(len(list))], d.below(2), d.below(4), d.below(3), note)
}

// parted is a stream whose scans have several segments each: a frame of two
// components, a note, and ten scans.
func parted(mode int) impl.Stream {
	d := dice(15)
	f := restarted(shared(24, 16, [2]int{1, 1}, [2]int{1, 1}), 4)
	return impl.Stream{Frame: f, Tables: fourTables(), Coefs: sparseCoefs(&d, f, 20, 90), Mode: mode, Script: impl.ScriptFor(f, 2), Note: []byte("a note")}
}

// scanStarts are the numbers of the first segments of each scan, and how many
// segments there are.
func scanStarts(s impl.Stream) []int {
	at := len(headParts(s))
	starts := []int{at}
	for _, list := range scanLists(s) {
		at += len(list)
		starts = append(starts, at)
	}
	return starts
}

func TestStreamConstants(t *testing.T) {
	if got := []int{impl.StFrame, impl.StTable, impl.StNote, impl.StScan, impl.StLeft}; !slices.Equal(got, []int{11, 12, 13, 14, 15}) {
		t.Fatal(got)
	}
}

// tableBytes are those of a table's part with steps as told, in the order of
// ZigZag.
func tableBytes(number byte, step func(k int) int) []byte {
	b := []byte{255, 2, 0, 129, number}
	for k := range 64 {
		b = append(b, byte(step(k)>>8), byte(step(k)))
	}
	return b
}

func TestStreamByHand(t *testing.T) {
	f := impl.Frame{Prec: 12, Width: 16, Height: 8, Restart: 1, Comps: []impl.Comp{{Id: 7, H: 1, V: 1, Q: 2}}}
	s := plainStream(f, 0)
	s.Mode = 1
	s.Tables = [][]int{flat(1), impl.Plain(3), impl.Plain(2), flat(0)}
	for k, place := range zigPlaces {
		s.Tables[3][place] = 960 + k
	}
	s.Coefs.Planes[0][0][0] = 3
	s.Note = []byte{255, 254, 0}
	first := impl.EncodeBins(slices.Concat(impl.BinsOf(3, 0), impl.BinsOf(0, 20)))
	second := impl.EncodeBins(slices.Concat(impl.BinsOf(0, 0), impl.BinsOf(0, 20)))
	want := slices.Concat(
		[]byte{84, 83, 255, 1, 0, 8, 12, 15, 7, 1, 1, 7, 17, 2},
		tableBytes(0, func(int) int { return 1 }), tableBytes(1, func(int) int { return 1 }),
		tableBytes(2, func(int) int { return 8 }), tableBytes(3, func(k int) int { return 960 + k }),
		[]byte{255, 3, 0, 3, 255, 254, 0},
		[]byte{255, 5, 0, 7, 1, 1, 0, 0, 63, 0, 0}, impl.Stuff(first), []byte{255, 240}, impl.Stuff(second),
		[]byte{255, 254},
	)
	if b := checkStreamBack(t, "by hand", s); !bytes.Equal(b, want) {
		t.Fatal(b)
	}
	// Without a note there is no part for it, whether it is nil or empty.
	without := slices.Concat(want[:14+4*133], want[14+4*133+7:])
	for _, note := range [][]byte{nil, {}} {
		s.Note = note
		if b := checkStreamBack(t, "no note", s); !bytes.Equal(b, without) {
			t.Fatal(b)
		}
	}
}

// Promise 15, for one to four components, both modes, the three scripts and
// drawn ones, with restarts and without, and notes; all is held against the
// rule too.
func TestStreamsReadBack(t *testing.T) {
	d := dice(1500)
	for comps := 1; comps <= 4; comps++ {
		list := sharesOf(comps)
		for mode := range 2 {
			for kind := range 4 {
				for _, restart := range []int{0, 1, 2, 255} {
					for _, note := range []int{0, 1, 1000} {
						s := drawnStream(&d, list[d.below(len(list))], mode, kind, restart, note)
						checkStreamBack(t, "drawn", s)
					}
				}
			}
		}
	}
}

// All scripts of frames with hidden blocks.
func TestStreamsOfHiddenBlocks(t *testing.T) {
	d := dice(1501)
	for what, f := range fewBlocks() {
		for kind := range 3 {
			s := plainStream(restarted(f, 3*d.below(2)), kind)
			s.Mode, s.Coefs = d.below(2), drawnCoefs(&d, f)
			checkStreamBack(t, what, s)
		}
	}
}

// Numbers at the limits, told bit by bit from the highest on.
func TestStreamsOfLevels(t *testing.T) {
	f := rowsOf(3, 1, 2)
	for mode := range 2 {
		for kind := range 3 {
			s := plainStream(f, kind)
			s.Mode = mode
			s.Coefs.Planes[0] = [][]int{flat(impl.MaxLevel), flat(-impl.MaxLevel), cycled(64, impl.MaxLevel, 0, -1, 5)}
			checkStreamBack(t, "levels", s)
			s.Script = []impl.Scan{firstScan(0, 63, impl.MaxLow, 0)}
			for low := impl.MaxLow - 1; low >= 0; low-- {
				s.Script = append(s.Script, fineScan(0, 63, low, 0))
			}
			checkStreamBack(t, "bit by bit", s)
		}
	}
}

// Tables at the limits, and each number of a frame.
func TestStreamsOfTablesAndFrames(t *testing.T) {
	s := plainStream(rowsOf(1, 1, 0), 0)
	for i, q := range tablesToTry() {
		checkStreamBack(t, "table", altered(s, func(s *impl.Stream) { s.Tables[i%4] = q }))
	}
	for k := range 64 {
		for _, n := range []int{1, 255, 256, 257, 1023} {
			checkStreamBack(t, "step", altered(s, func(s *impl.Stream) { s.Tables[k%4][k] = n }))
		}
	}
	for what, f := range goodFrames() {
		for kind := range 3 {
			x := plainStream(f, kind)
			if segsFor(f, x.Script) > 300 {
				x.Frame.Restart = 0
			}
			x.Mode = kind % 2
			checkStreamBack(t, what, x)
		}
	}
}

// turnedBytes has other bytes here and there.
func turnedBytes(d *dice, b []byte) []byte {
	b = bytes.Clone(b)
	for range 1 + d.below(2) {
		at := []int{d.below(len(b)), d.below(20), len(b) - 1 - d.below(min(60, len(b)))}[d.below(3)]
		b[at] = []byte{b[at] ^ 1<<d.below(8), byte(d.below(256)), 0, 255, b[at] + 1}[d.below(5)]
	}
	return b
}

// Promise 15 of bytes that were turned, and of segments that were.
func TestStreamsThatWereTurned(t *testing.T) {
	d := dice(1502)
	met := [2]map[int]int{{}, {}}
	for range 80 {
		s := anyStream(&d, []int{0, 1, 30}[d.below(3)])
		b := impl.WriteStream(s)
		segs, f := impl.ReadSegs(b)
		if f.Code != 0 {
			t.Fatal(s.Frame, s.Script, f)
		}
		for range 20 {
			met[s.Mode][checkAnyBytes(t, "turned", turnedBytes(&d, b))]++
			met[s.Mode][checkAnyBytes(t, "a turned segment", segsText(turnedByte(&d, segs)))]++
			met[s.Mode][checkAnyBytes(t, "turned segments", segsText(turnedSegs(&d, segs)))]++
		}
	}
	for mode := range 2 {
		for _, code := range []int{impl.OK, impl.SgEnd, impl.SgMark, impl.StFrame, impl.StTable, impl.StScan} {
			if met[mode][code] < 10 {
				t.Fatal(mode, code, met[mode])
			}
		}
	}
}

// checkCutShort asks that bytes are never read that are cut short, at any
// place; what was cut off still lies behind them.
func checkCutShort(t *testing.T, b []byte) {
	t.Helper()
	for n := range len(b) {
		if n < 2 {
			checkStreamFault(t, "cut short", b[:n], impl.SgBegin, 0)
			continue
		}
		checkStreamFault(t, "cut short", b[:n], impl.SgEnd, n)
	}
}

func TestStreamsCutShort(t *testing.T) {
	d := dice(1503)
	for i := range 60 {
		s := anyStream(&d, []int{0, 1, 1000}[i%3])
		checkCutShort(t, checkStreamBack(t, "whole", s))
	}
	// What looks like an end, in the note, in the frame and in the tables.
	s := plainStream(restarted(rowsOf(2, 1, 0), 254), 0)
	s.Frame.Comps[0].Id = 255
	s.Note = bytes.Repeat([]byte{255, 254}, 500)
	s.Tables[2] = cycled(64, 255, 254, 511, 510)
	for mode := range 2 {
		s.Mode = mode
		s.Coefs.Planes[0][1] = cycled(64, 255, -255, 254, 16383)
		checkCutShort(t, checkStreamBack(t, "ends", s))
	}
}

// Segments that are cut short, and ended all the same: the fault is that of the
// chapter, at the segment that is wanting or at the scan that is not whole.
func TestStreamsOfTooFewSegments(t *testing.T) {
	for mode := range 2 {
		s := parted(mode)
		segs, starts := streamParts(s), scanStarts(s)
		if starts[0] != 6 || starts[len(starts)-1] != len(segs) || len(segs) < 40 {
			t.Fatal(starts, len(segs))
		}
		for n := range segs {
			what, b := "segments "+strconv.Itoa(n), segsText(segs[:n])
			switch {
			case n == 0:
				checkStreamFault(t, what, b, 11, 0)
			case n < 5:
				checkStreamFault(t, what, b, 12, n)
			case slices.Contains(starts, n) || n == 5:
				checkStreamFault(t, what, b, 15, n)
			default:
				at := 6
				for _, start := range starts {
					if start < n {
						at = start
					}
				}
				checkStreamFault(t, what, b, 14, at)
			}
		}
	}
}

// brokenFrames are frames for which all else of the stream would be right.
func brokenFrames(f impl.Frame) map[string]impl.Frame {
	m := map[string]impl.Frame{}
	change := func(what string, do func(f *impl.Frame)) {
		x := cloneFrame(f)
		do(&x)
		m[what] = x
	}
	for _, n := range []int{0, 7, 9, 11, 13} {
		change("Prec "+strconv.Itoa(n), func(f *impl.Frame) { f.Prec = n })
	}
	for _, n := range []int{-1, 256} {
		change("Restart "+strconv.Itoa(n), func(f *impl.Frame) { f.Restart = n })
		change("Id "+strconv.Itoa(n), func(f *impl.Frame) { f.Comps[1].Id = n })
	}
	for _, n := range []int{-1, 4} {
		change("Q "+strconv.Itoa(n), func(f *impl.Frame) { f.Comps[0].Q = n })
	}
	change("Ids alike", func(f *impl.Frame) { f.Comps[1].Id = f.Comps[0].Id })
	change("one component less", func(f *impl.Frame) { f.Comps = f.Comps[:1] })
	change("one component more", func(f *impl.Frame) { f.Comps = append(f.Comps, impl.Comp{Id: 77, H: 1, V: 1}) })
	change("wider", func(f *impl.Frame) { f.Width += 8 })
	change("less high", func(f *impl.Frame) { f.Height -= 8 })
	return m
}

func TestStreamOkFrames(t *testing.T) {
	s := parted(0)
	checkStreamBack(t, "good", s)
	for what, f := range brokenFrames(s.Frame) {
		checkNoStream(t, what, altered(s, func(s *impl.Stream) { s.Frame = f }))
	}
	for what, f := range wrongFrames() {
		checkNoStream(t, what, altered(s, func(s *impl.Stream) { s.Frame = f }))
	}
	checkNoStream(t, "the zero Stream", impl.Stream{})
}

func TestStreamOkTables(t *testing.T) {
	s := plainStream(rowsOf(1, 1, 0), 0)
	checkStreamBack(t, "four", s)
	for _, n := range []int{0, 1, 2, 3, 5, 6, 8, 260} {
		checkNoStream(t, "tables "+strconv.Itoa(n), altered(s, func(s *impl.Stream) { s.Tables = slices.Repeat([][]int{flat(1)}, n) }))
	}
	checkNoStream(t, "an empty one more", altered(s, func(s *impl.Stream) { s.Tables = append(s.Tables, nil) }))
	for at := range 4 {
		for i, q := range wrongTables() {
			checkNoStream(t, "table "+strconv.Itoa(i), altered(s, func(s *impl.Stream) { s.Tables[at] = q }))
		}
		// Each table is asked, whether a component has it or not.
		for _, q := range tablesToTry() {
			checkStreamBack(t, "table", altered(s, func(s *impl.Stream) { s.Tables[at] = q }))
		}
	}
}

func TestStreamOkCoefs(t *testing.T) {
	f := shared(17, 9, [2]int{2, 2}, [2]int{1, 1})
	s := plainStream(f, 1)
	checkStreamBack(t, "good", s)
	for what, c := range otherCounts(s.Coefs) {
		checkNoStream(t, what, altered(s, func(s *impl.Stream) { s.Coefs = c }))
	}
	for _, p := range allPlaces(f) {
		for _, n := range []int{1, -1, impl.MaxLevel, -impl.MaxLevel, impl.MaxLevel + 1, -impl.MaxLevel - 1} {
			x := altered(s, func(s *impl.Stream) { (*blockIn(f, s.Coefs, p))[33] = n })
			if isNeeded(f, p) && between(-impl.MaxLevel, impl.MaxLevel, n) {
				checkStreamBack(t, "a number", x)
			} else {
				checkNoStream(t, "a number past the limit, or in a hidden block", x)
			}
		}
	}
}

func TestStreamOkModes(t *testing.T) {
	s := plainStream(rowsOf(2, 1, 1), 2)
	for _, mode := range append(far(), -2, -1, 0, 1, 2, 3, 255, 256) {
		x := altered(s, func(s *impl.Stream) { s.Mode = mode })
		if between(0, 1, mode) {
			checkStreamBack(t, "mode", x)
		} else {
			checkNoStream(t, "mode "+strconv.Itoa(mode), x)
		}
	}
}

// fullScript tells all of one component in just n scans.
func fullScript(n int) []impl.Scan {
	return append(singlePlaces(n-1), firstScan(n-1, 63, 0, 0))
}

func TestStreamOkScripts(t *testing.T) {
	f := shared(8, 8, [2]int{1, 1}, [2]int{1, 1})
	for kind := range 3 {
		s := plainStream(f, kind)
		checkStreamBack(t, "whole", s)
		for n := range s.Script {
			checkNoStream(t, "unfinished", altered(s, func(s *impl.Stream) { s.Script = s.Script[:n] }))
			checkNoStream(t, "one is left out", altered(s, func(s *impl.Stream) { s.Script = slices.Delete(s.Script, n, n+1) }))
			checkNoStream(t, "one comes twice", altered(s, func(s *impl.Stream) { s.Script = append(s.Script, s.Script[n]) }))
			for what, bad := range badScans(2) {
				checkNoStream(t, what, altered(s, func(s *impl.Stream) { s.Script = slices.Insert(s.Script, n, bad) }))
				checkNoStream(t, what, altered(s, func(s *impl.Stream) { s.Script[n] = bad }))
			}
		}
	}
	one := plainStream(rowsOf(1, 1, 0), 0)
	for n := 1; n <= 64; n++ {
		x := altered(one, func(s *impl.Stream) { s.Script = fullScript(n) })
		if n <= impl.MaxScans {
			checkStreamBack(t, "scans", x)
		} else {
			checkNoStream(t, "scans "+strconv.Itoa(n), x)
		}
	}
}

func TestStreamOkNotes(t *testing.T) {
	s := plainStream(rowsOf(1, 1, 0), 0)
	for _, n := range []int{0, 1, 2, 255, 256, 257, 999, 1000} {
		for _, x := range []byte{0, 7, 255} {
			checkStreamBack(t, "note", altered(s, func(s *impl.Stream) { s.Note = bytes.Repeat([]byte{x}, n) }))
		}
	}
	for _, n := range []int{1001, 1002, 20000, 20001, 65536, 65537} {
		checkNoStream(t, "note "+strconv.Itoa(n), altered(s, func(s *impl.Stream) { s.Note = sevens(n) }))
	}
}

// checkTooMuch asks that a stream that is ok is not written.
func checkTooMuch(t *testing.T, what string, s impl.Stream) {
	t.Helper()
	if !impl.StreamOk(s) {
		t.Fatalf("%s: not even ok", what)
	}
	if b := checkWritten(t, what, s); len(b) != 0 {
		t.Fatalf("%s: %d bytes", what, len(b))
	}
}

// fillPlane makes each wave but the first of 256 blocks a number whose item has
// ten bits, and of so many of them one whose item has nine.
func fillPlane(plane [][]int, smaller int) {
	for i := range 256 * 63 {
		plane[i/63][1+i%63] = 256
		if i < smaller {
			plane[i/63][1+i%63] = -255
		}
	}
}

// A scan of all waves has one bit more for each block, for the difference:
// 160000 bits are 20000 bytes.
func TestStreamsOfMuchDataInOneScan(t *testing.T) {
	f := rowsOf(16, 16, 0)
	for smaller, ok := range map[int]bool{1535: false, 1536: true, 1537: true, 1: false} {
		s := plainStream(f, 0)
		fillPlane(s.Coefs.Planes[0], smaller)
		if !ok {
			checkTooMuch(t, "one scan", s)
			continue
		}
		b := checkStreamBack(t, "one scan", s)
		if segs, _ := impl.ReadSegs(b); len(segs) != 7 || len(segs[6].Data) != 20000 {
			t.Fatal(smaller, len(segs))
		}
	}
	// In the second of three scans: without it the others are not written.
	for smaller, ok := range map[int]bool{1279: false, 1280: true} {
		s := plainStream(f, 0)
		s.Script = []impl.Scan{firstScan(0, 0, 1, 0), firstScan(1, 63, 0, 0), fineScan(0, 0, 0, 0)}
		fillPlane(s.Coefs.Planes[0], smaller)
		if ok {
			checkStreamBack(t, "the second scan", s)
		} else {
			checkTooMuch(t, "the second scan", s)
		}
	}
}

// With the bit coder a stretch has at most MaxBins bins.
func TestStreamsOfManyBins(t *testing.T) {
	f := rowsOf(16, 16, 0)
	s := plainStream(f, 0)
	s.Mode, s.Script = 1, []impl.Scan{firstScan(0, 0, 0, 0), firstScan(1, 63, 0, 0)}
	checkStreamBack(t, "200000", altered(s, func(s *impl.Stream) { s.Coefs = ofBins(t, f, 200000) }))
	checkTooMuch(t, "200001", altered(s, func(s *impl.Stream) { s.Coefs = ofBins(t, f, 200001) }))
}

// 147 stretches and a note make 300 segments, 148 without one 301.
func TestStreamsOfManySegments(t *testing.T) {
	d := dice(1504)
	most := rowsOf(21, 7, 1)
	over := restarted(shared(176, 32, [2]int{3, 1}, [2]int{2, 1}), 1)
	for mode := range 2 {
		for _, x := range []struct {
			f    impl.Frame
			kind int
			note int
			segs int
		}{
			{most, 0, 0, 299}, {most, 0, 1, 300}, {most, 1, 1000, 300}, {over, 1, 0, 301}, {over, 1, 1, 302},
			{rowsOf(15, 10, 1), 0, 0, 305}, {rowsOf(16, 9, 1), 0, 1, 294}, {rowsOf(5, 5, 1), 2, 0, 5 + 6*50},
		} {
			s := plainStream(x.f, x.kind)
			s.Mode, s.Coefs, s.Note = mode, sparseCoefs(&d, x.f, 2, 3), sevens(x.note)
			if n := len(streamParts(s)); n != x.segs {
				t.Fatal(x, n)
			}
			if x.segs > impl.MaxSegs {
				checkTooMuch(t, "segments "+strconv.Itoa(x.segs), s)
			} else {
				checkStreamBack(t, "segments "+strconv.Itoa(x.segs), s)
			}
		}
	}
}

// filledStream has three scans, of nearly MaxBytes bytes together; the more of
// the first are smaller the fewer, and a note of so many.
func filledStream(first, note int) impl.Stream {
	s := plainStream(shared(128, 128, [2]int{1, 1}, [2]int{1, 1}, [2]int{1, 1}), 1)
	s.Note = bytes.Repeat([]byte{255}, note)
	for i, smaller := range []int{first, 7936, 7936} {
		fillPlane(s.Coefs.Planes[i], smaller)
	}
	return s
}

// The bytes of three scans, and a note that fills them up to MaxBytes; or no
// note, and a scan that does so.
func TestStreamsOfManyBytes(t *testing.T) {
	room := impl.MaxBytes - len(checkStreamBack(t, "no note", filledStream(7936, 0)))
	if !between(5, 1003, room) {
		t.Fatal(room)
	}
	for _, more := range []int{-1, 0} {
		if b := checkStreamBack(t, "a note", filledStream(7936, room-4+more)); len(b) != impl.MaxBytes+more {
			t.Fatal(len(b))
		}
		if b := checkStreamBack(t, "a scan", filledStream(7936-8*(room+more), 0)); len(b) != impl.MaxBytes+more {
			t.Fatal(len(b))
		}
	}
	for _, more := range []int{1, 2} {
		checkTooMuch(t, "a note", filledStream(7936, room-4+more))
		checkTooMuch(t, "a scan", filledStream(7936-8*(room+more), 0))
	}
	checkTooMuch(t, "a note and a scan", filledStream(7936-8*room, 1))
}

// What was written with other codes than the best ones, or with more behind
// what is needed, is read all the same, and written anew with the best ones.
func TestStreamsWrittenInAnotherWay(t *testing.T) {
	s := plainStream(rowsOf(1, 1, 0), 0)
	s.Coefs.Planes[0][0][0] = 5
	worse := coded(s.Script[0], map[int]int{0: 1, 3: 5}, map[int]int{0: 3}, "10000"+"101"+"000")
	worse[1].Data = append(worse[1].Data, 1, 2, 3)
	b := segsText(append(headParts(s), worse...))
	if bytes.Equal(b, checkStreamBack(t, "the best", s)) {
		t.Fatal("the same bytes")
	}
	if x, f := impl.ReadStream(b); f.Code != 0 || !sameStream(x, s) {
		t.Fatal(x, f)
	}
	checkAnyBytes(t, "in another way", b)
}

// checkSegsFault asks for a fault of the stream of these segments.
func checkSegsFault(t *testing.T, what string, segs []impl.Seg, code, at int) {
	t.Helper()
	checkStreamFault(t, what, segsText(segs), code, at)
}

// swapped is a list of segments with another one at a place.
func swapped(segs []impl.Seg, at int, s impl.Seg) []impl.Seg {
	segs = slices.Clone(segs)
	segs[at] = s
	return segs
}

// replaced is a list of segments with others for those from a place up to
// another one.
func replaced(segs []impl.Seg, from, to int, with ...impl.Seg) []impl.Seg {
	return slices.Concat(segs[:from], with, segs[to:])
}

// The faults of segments are told as they are, whatever else is wrong.
func TestStreamFaultsOfSegments(t *testing.T) {
	for what, x := range segFaults() {
		checkStreamFault(t, what, x.b, x.code, x.at)
	}
	for mode := range 2 {
		s := parted(mode)
		segs, starts := streamParts(s), scanStarts(s)
		// Nothing of this is a stream's, but the whole comes first.
		for what, list := range map[string][]impl.Seg{
			"a stream": segs, "no frame": segs[1:], "no table": replaced(segs, 3, 4), "an empty note": swapped(segs, 5, segPart(3)),
			"no scan": swapped(segs, starts[2], segPart(9)), "unfinished": segs[:starts[4]], "nothing": nil,
		} {
			b := segsText(list)
			checkStreamFault(t, what+", and cut", b[:len(b)-1], impl.SgEnd, len(b)-1)
			checkStreamFault(t, what+", and no end", b[:len(b)-2], impl.SgEnd, len(b)-2)
			checkStreamFault(t, what+", and more", slices.Concat(b, []byte{0}), impl.SgRest, len(b))
			checkStreamFault(t, what+", twice", slices.Concat(b, b), impl.SgRest, len(b))
			checkStreamFault(t, what+", begun in another way", slices.Concat([]byte{84, 84}, b[2:]), impl.SgBegin, 0)
			checkStreamFault(t, what+", without a beginning", b[2:], impl.SgBegin, 0)
			checkStreamFault(t, what+", and no mark", slices.Concat(b[:len(b)-2], []byte{255, 250, 255, 254}), impl.SgMark, len(b)-2)
			checkStreamFault(t, what+", and a long part", slices.Concat(b[:len(b)-2], []byte{255, 5, 78, 33}), impl.SgLong, len(b)-2)
			checkStreamFault(t, what+", and far more", slices.Concat(b, make([]byte, impl.MaxBytes+1-len(b))), impl.SgBytes, 0)
			checkStreamFault(t, what+", and more, up to MaxBytes", slices.Concat(b, make([]byte, impl.MaxBytes-len(b))), impl.SgRest, len(b))
			many := slices.Concat(list, manySegs(301-len(list)))
			checkStreamFault(t, what+", and many", segsText(many), impl.SgMany, len(segsText(many))-6)
		}
	}
}

func TestStreamFaultsOfFrames(t *testing.T) {
	segs := streamParts(parted(0))
	checkSegsFault(t, "no segment", nil, impl.StFrame, 0)
	checkSegsFault(t, "no frame", segs[1:], impl.StFrame, 0)
	checkSegsFault(t, "a table ahead of it", slices.Concat(segs[1:2], segs), impl.StFrame, 0)
	for mark := 2; mark <= 239; mark++ {
		checkSegsFault(t, "Mark "+strconv.Itoa(mark), swapped(segs, 0, segPart(mark, segs[0].Data...)), impl.StFrame, 0)
	}
	frame := segs[0].Data
	for n := range frame {
		checkSegsFault(t, "a frame cut short", swapped(segs, 0, segPart(1, frame[:n]...)), impl.StFrame, 0)
	}
	checkSegsFault(t, "a byte more", swapped(segs, 0, segPart(1, slices.Concat(frame, []byte{0})...)), impl.StFrame, 0)
	checkSegsFault(t, "a frame alone, cut short", []impl.Seg{segPart(1, frame[:5]...)}, impl.StFrame, 0)
	met := map[int]int{}
	for at := range frame {
		for n := range 256 {
			data := bytes.Clone(frame)
			data[at] = byte(n)
			met[checkAnyBytes(t, "another byte", segsText(swapped(segs, 0, segPart(1, data...))))]++
		}
	}
	// Ids and the tables of components may be others; sides and restarts bring
	// scans that cannot be read.
	if met[0] < 256 || met[impl.StFrame] < 1000 || met[impl.StScan] < 256 || len(met) != 3 {
		t.Fatal(met)
	}
	// The frame comes once.
	checkSegsFault(t, "a frame twice", slices.Concat(segs[:1], segs), impl.StTable, 1)
	checkSegsFault(t, "run data behind the frame", replaced(segs, 1, 1, segRun(1)), impl.StTable, 1)
}

func TestStreamFaultsOfTables(t *testing.T) {
	segs := streamParts(parted(1))
	for at := 1; at <= 4; at++ {
		what, data := "table "+strconv.Itoa(at-1), segs[at].Data
		fault := func(how string, list []impl.Seg) {
			t.Helper()
			checkSegsFault(t, what+", "+how, list, impl.StTable, at)
		}
		fault("not there", segs[:at])
		fault("left out", replaced(segs, at, at+1))
		fault("run data", swapped(segs, at, segRun(data...)))
		fault("run data ahead", replaced(segs, at, at, segRun(9)))
		for _, mark := range []int{1, 3, 4, 5, 9, 239} {
			fault("another Mark", swapped(segs, at, segPart(mark, data...)))
		}
		for _, n := range []int{0, 1, 2, 127, 128, 130, 131, 257, impl.MaxData} {
			fault("bytes "+strconv.Itoa(n), swapped(segs, at, segPart(2, slices.Concat(data, make([]byte, n))[:n]...)))
		}
		for number := range 256 {
			if number != at-1 {
				fault("number "+strconv.Itoa(number), swapped(segs, at, segPart(2, slices.Concat([]byte{byte(number)}, data[1:])...)))
			}
		}
		for k := range 64 {
			for _, n := range []int{0, 1024, 1025, 4096, 32767, 32768, 33000, 65535} {
				wrong := bytes.Clone(data)
				wrong[1+2*k], wrong[2+2*k] = byte(n>>8), byte(n)
				fault("step "+strconv.Itoa(n), swapped(segs, at, segPart(2, wrong...)))
			}
			for _, n := range []int{1, 2, 255, 256, 1023} {
				right := bytes.Clone(data)
				right[1+2*k], right[2+2*k] = byte(n>>8), byte(n)
				s, f := impl.ReadStream(segsText(swapped(segs, at, segPart(2, right...))))
				if f.Code != 0 || s.Tables[at-1][zigPlaces[k]] != n {
					t.Fatal(what, k, n, f)
				}
			}
		}
		for other := 1; other <= 4; other++ {
			if other != at {
				list := swapped(swapped(segs, at, segs[other]), other, segs[at])
				checkSegsFault(t, "two turned about", list, impl.StTable, min(at, other))
			}
		}
	}
	checkSegsFault(t, "a fifth one", replaced(segs, 5, 5, segPart(2, slices.Concat([]byte{4}, segs[4].Data[1:])...)), impl.StScan, 5)
}

func TestStreamFaultsOfNotes(t *testing.T) {
	for mode := range 2 {
		segs := streamParts(parted(mode))
		for _, n := range []int{0, 1001, 1002, 1256, 2000, impl.MaxData} {
			checkSegsFault(t, "a note of "+strconv.Itoa(n), swapped(segs, 5, segPart(3, sevens(n)...)), impl.StNote, 5)
			checkSegsFault(t, "a note ahead of none of "+strconv.Itoa(n), slices.Concat(segs[:5], []impl.Seg{segPart(3, sevens(n)...)}), impl.StNote, 5)
		}
		for _, n := range []int{1, 2, 999, 1000} {
			s, f := impl.ReadStream(segsText(swapped(segs, 5, segPart(3, sevens(n)...))))
			if f.Code != 0 || !bytes.Equal(s.Note, sevens(n)) {
				t.Fatal(n, f, s.Note)
			}
			checkSegsFault(t, "a note and no scan", slices.Concat(segs[:5], []impl.Seg{segPart(3, sevens(n)...)}), impl.StLeft, 6)
			checkSegsFault(t, "two notes", replaced(segs, 5, 5, segPart(3, sevens(n)...)), impl.StScan, 6)
			checkSegsFault(t, "a note behind all", slices.Concat(segs, []impl.Seg{segPart(3, sevens(n)...)}), impl.StScan, len(segs))
		}
		// Only as segment 5 it is a note at all.
		checkSegsFault(t, "an empty one behind a note", replaced(segs, 6, 6, segPart(3)), impl.StScan, 6)
		checkSegsFault(t, "an empty one behind all", slices.Concat(segs, []impl.Seg{segPart(3)}), impl.StScan, len(segs))
		checkSegsFault(t, "run data behind a note", replaced(segs, 6, 6, segRun(3)), impl.StScan, 6)
		if s, f := impl.ReadStream(segsText(replaced(segs, 5, 6))); f.Code != 0 || len(s.Note) != 0 {
			t.Fatal(f, s.Note)
		}
	}
}

// Each scan of a stream is made one that cannot be read; the fault is at its
// first segment, wherever in it something is wrong.
func TestStreamFaultsOfScans(t *testing.T) {
	for mode := range 2 {
		s := parted(mode)
		segs, starts := streamParts(s), scanStarts(s)
		for i, scan := range s.Script {
			at, end := starts[i], starts[i+1]
			head := segs[at].Data
			fault := func(how string, list []impl.Seg) {
				t.Helper()
				checkSegsFault(t, "scan "+strconv.Itoa(i)+", "+how, list, impl.StScan, at)
			}
			for _, mark := range []int{1, 2, 3, 4, 6, 239} {
				// A note may stand ahead of the first scan, but there is one already.
				fault("another Mark", swapped(segs, at, segPart(mark, head...)))
				fault("a part ahead", replaced(segs, at, at, segPart(mark)))
				fault("a part with data ahead", replaced(segs, at, at, segPart(mark, head...)))
			}
			fault("a part alone ahead", replaced(segs, at, at, segs[at]))
			fault("a part alone", segs[:at+1])
			fault("no run data", replaced(segs, at+1, end))
			fault("no head", swapped(segs, at, segPart(5)))
			fault("a head cut short", swapped(segs, at, segPart(5, head[:len(head)-1]...)))
			fault("a head with more", swapped(segs, at, segPart(5, slices.Concat(head, []byte{0})...)))
			for k, wrong := range map[int]byte{0: 2, 1: 0, 2: 2, 2 + len(scan.Comps): 64} {
				data := bytes.Clone(head)
				data[k] = wrong
				fault("another head", swapped(segs, at, segPart(5, data...)))
			}
			fault("the last stretch left out", replaced(segs, end-2, end))
			fault("the last run data left out", replaced(segs, end-1, end))
			fault("a stretch more", replaced(segs, end, end, segRestart(240+(end-at)/2-1), segRun(0)))
			fault("a restart more", replaced(segs, end, end, segRestart(240+(end-at)/2-1)))
			for k := at + 2; k < end; k += 2 {
				fault("another restart", swapped(segs, k, segRestart(segs[k].Mark^4)))
			}
			// Codes need their bits; the bit coder reads noughts behind its bytes.
			for k := at + 1; k < end; k += 2 {
				if mode == 0 && len(segs[k].Data) > 4 {
					fault("a stretch without its bits", swapped(segs, k, segRun(segs[k].Data[0])))
				}
			}
		}
		checkSegsFault(t, "a part behind all", slices.Concat(segs, []impl.Seg{segPart(9)}), impl.StScan, len(segs))
		checkSegsFault(t, "a frame behind all", slices.Concat(segs, segs[:1]), impl.StScan, len(segs))
		checkSegsFault(t, "all twice", slices.Concat(segs, segs), impl.StScan, len(segs))
	}
}

// One scan with another mode than those ahead.
func TestStreamFaultsOfModes(t *testing.T) {
	for mode := range 2 {
		s := parted(mode)
		segs, starts := streamParts(s), scanStarts(s)
		for i, scan := range s.Script {
			other := replaced(segs, starts[i], starts[i+1], ruleSegs(s.Frame, s.Coefs, scan, 1-mode)...)
			// The first one says which mode it is, and the second is at fault.
			checkSegsFault(t, "another mode", other, impl.StScan, starts[max(i, 1)])
			cut := other[:starts[i+1]]
			if i == 0 {
				checkSegsFault(t, "the first alone", cut, impl.StLeft, starts[1])
			} else {
				checkSegsFault(t, "another mode at the end", cut, impl.StScan, starts[i])
			}
		}
	}
}

// Of noughts any pass can be read: what the scans ahead told says alone
// whether it may come.
func TestStreamFaultsOfScripts(t *testing.T) {
	f := restarted(shared(16, 8, [2]int{1, 1}, [2]int{1, 1}), 1)
	for mode := range 2 {
		for kind := range 3 {
			s := plainStream(f, kind)
			s.Mode = mode
			segs, starts := streamParts(s), scanStarts(s)
			more := then(s.Script, firstScan(0, 0, 0, 0, 1), firstScan(63, 63, 3, 1), fineScan(5, 9, 0, 0), fineScan(0, 63, 1, 1), fineScan(0, 63, 13, 0))
			met := 0
			for i := range len(s.Script) + 1 {
				for _, scan := range more {
					list := ruleSegs(f, s.Coefs, scan, mode)
					if _, _, _, n := impl.DecodeScan(f, s.Coefs, list); n != len(list) {
						t.Fatal("not read", scan)
					}
					if len(ruleLeft(f, then(s.Script[:i], scan))) > 0 {
						continue
					}
					met++
					checkSegsFault(t, "a scan that may not come", replaced(segs, starts[i], starts[i], list...), impl.StScan, starts[i])
					checkSegsFault(t, "one at the end", slices.Concat(segs[:starts[i]], list), impl.StScan, starts[i])
				}
			}
			if met < len(more) {
				t.Fatal(kind, met)
			}
		}
	}
}

func TestStreamFaultsOfManyScans(t *testing.T) {
	for mode := range 2 {
		s := plainStream(rowsOf(1, 1, 0), 0)
		s.Mode = mode
		for _, n := range []int{41, 42, 64} {
			for _, script := range [][]impl.Scan{fullScript(n), singlePlaces(n)} {
				s.Script = script
				segs := streamParts(s)
				if len(segs) != 5+2*n {
					t.Fatal(n, len(segs))
				}
				checkSegsFault(t, "scans "+strconv.Itoa(n), segs, impl.StScan, 5+2*40)
				checkSegsFault(t, "of these 41", segs[:5+2*41], impl.StScan, 5+2*40)
				checkSegsFault(t, "of these 40", segs[:5+2*40], impl.StLeft, 5+2*40)
			}
		}
		s.Script = fullScript(40)
		segs := streamParts(s)
		if x, f := impl.ReadStream(segsText(segs)); f.Code != 0 || len(x.Script) != 40 {
			t.Fatal(f)
		}
		checkSegsFault(t, "40, and one that may not come", slices.Concat(segs, segs[5:7]), impl.StScan, len(segs))
		checkSegsFault(t, "40, and no scan", slices.Concat(segs, []impl.Seg{segPart(5)}), impl.StScan, len(segs))
	}
}

func TestStreamFaultsOfWhatIsLeft(t *testing.T) {
	d := dice(1505)
	for mode := range 2 {
		for comps := 1; comps <= 4; comps++ {
			for kind := range 4 {
				for note := range 2 {
					s := drawnStream(&d, slices.Repeat([][2]int{{1, 1}}, comps), mode, kind, 3*note, note)
					segs, starts := streamParts(s), scanStarts(s)
					for i := range s.Script {
						checkSegsFault(t, "scans "+strconv.Itoa(i), segs[:starts[i]], impl.StLeft, starts[i])
					}
				}
			}
		}
		s := plainStream(rowsOf(2, 2, 0), 0)
		s.Mode = mode
		for k := range 64 {
			for _, low := range []int{1, impl.MaxLow} {
				s.Script = slices.DeleteFunc([]impl.Scan{firstScan(0, k-1, 0, 0), firstScan(k, k, low, 0), firstScan(k+1, 63, 0, 0)}, func(x impl.Scan) bool { return x.From > x.To })
				segs := streamParts(s)
				checkSegsFault(t, "a wave that is not told to its end", segs, impl.StLeft, len(segs))
			}
			s.Script = slices.DeleteFunc([]impl.Scan{firstScan(0, k-1, 0, 0), firstScan(k+1, 63, 0, 0)}, func(x impl.Scan) bool { return x.From > x.To })
			segs := streamParts(s)
			checkSegsFault(t, "a wave that is not told", segs, impl.StLeft, len(segs))
		}
	}
}

// flaw is a fault that can be put into segments, and where.
type flaw struct {
	what     string
	code, at int
	put      func(segs []impl.Seg) []impl.Seg
}

// flawsOf are faults that can be put into a stream's segments, in the order in
// which they are looked for.
func flawsOf(s impl.Stream) []flaw {
	starts := scanStarts(s)
	mark := func(at int) func(segs []impl.Seg) []impl.Seg {
		return func(segs []impl.Seg) []impl.Seg { return swapped(segs, at, segPart(77, segs[at].Data...)) }
	}
	list := []flaw{{"frame", impl.StFrame, 0, mark(0)}}
	for at := 1; at <= 4; at++ {
		list = append(list, flaw{"table " + strconv.Itoa(at-1), impl.StTable, at, mark(at)})
	}
	list = append(list, flaw{"note", impl.StNote, 5, func(segs []impl.Seg) []impl.Seg { return swapped(segs, 5, segPart(3)) }})
	last := len(s.Script) - 1
	for i := range last {
		list = append(list, flaw{"scan " + strconv.Itoa(i), impl.StScan, starts[i], mark(starts[i])})
	}
	return append(list, flaw{"left", impl.StLeft, starts[last], func(segs []impl.Seg) []impl.Seg { return segs[:starts[last]] }})
}

// Of two faults the one is told that is looked for first.
func TestStreamsWithTwoFaults(t *testing.T) {
	for mode := range 2 {
		s := parted(mode)
		segs, flaws := streamParts(s), flawsOf(s)
		for i, x := range flaws {
			checkSegsFault(t, x.what, x.put(segs), x.code, x.at)
			for _, y := range flaws[i+1:] {
				checkSegsFault(t, x.what+" and "+y.what, x.put(y.put(segs)), x.code, x.at)
				checkSegsFault(t, y.what+" and "+x.what, y.put(x.put(segs)), x.code, x.at)
			}
			b := segsText(x.put(segs))
			checkStreamFault(t, x.what+", and cut", b[:len(b)-1], impl.SgEnd, len(b)-1)
			checkStreamFault(t, x.what+", and more", slices.Concat(b, []byte{7}), impl.SgRest, len(b))
		}
	}
}

// wilder are changes after which a stream may be none, or another one.
func wilder(d *dice) func(s *impl.Stream) {
	n := append(far(), 0, 1, 2, 3, 8, 12, 255)[d.below(20)]
	return []func(s *impl.Stream){
		func(s *impl.Stream) {
			f := plainFrame(3)
			f.Comps = append(s.Frame.Comps, f.Comps...)[:3]
			fields := []string{"Prec", "Width", "Height", "Restart", "Id of 0", "H of 1", "V of 0", "Q of 2"}
			s.Frame.Comps = f.Comps
			*frameFields()[fields[d.below(len(fields))]](&s.Frame) = n
		},
		func(s *impl.Stream) { s.Frame.Comps = plainComps(d.below(6)) },
		func(s *impl.Stream) { s.Tables = slices.Repeat([][]int{flat(n)}, d.below(6)) },
		func(s *impl.Stream) { s.Tables = append(s.Tables, nil)[d.below(2):] },
		func(s *impl.Stream) { s.Coefs = impl.Coefs{} },
		func(s *impl.Stream) { s.Coefs.Planes = append(s.Coefs.Planes, nil, [][]int{nil, {1}})[d.below(3):] },
		func(s *impl.Stream) { s.Coefs = impl.EmptyCoefs(s.Frame) },
		func(s *impl.Stream) { s.Mode = n },
		func(s *impl.Stream) { s.Script = slices.Repeat(s.Script, d.below(60)) },
		func(s *impl.Stream) {
			s.Script = append(s.Script, impl.Scan{Comps: []int{n, d.below(3)}, From: n, To: d.below(70), High: n, Low: n})
		},
		func(s *impl.Stream) { s.Script = impl.ScriptFor(s.Frame, d.below(4)) },
		func(s *impl.Stream) { s.Note = make([]byte, 990+d.below(20)) },
	}[d.below(12)]
}

// None of the functions panics, and all answer by the rule.
func TestStreamsOfAnyArgument(t *testing.T) {
	d := dice(1506)
	ok := 0
	for range 600 {
		s := cloneStream(anyStream(&d, d.below(2)))
		for range d.below(4) {
			wilder(&d)(&s)
		}
		if len(checkWritten(t, "wild", s)) > 0 {
			ok++
		}
	}
	if !between(150, 450, ok) {
		t.Fatal(ok)
	}
	head := headParts(plainStream(rowsOf(2, 1, 1), 0))
	for range 1500 {
		checkAnyBytes(t, "bytes", bytesThrown(&d, d.below(80)))
		checkAnyBytes(t, "inner bytes", stream(bytesThrown(&d, d.below(80))...))
		checkAnyBytes(t, "segments", segsText(thrownSegs(&d, d.below(9))))
		behind := thrownSegs(&d, d.below(6))
		for i := range behind {
			if behind[i].Mark > 0 && behind[i].Mark < 240 && d.below(2) == 0 {
				behind[i] = segPart(5, bytesOf([]int{1, 1, 0, 0, 63 * d.below(2), 0, d.below(3)})...)
			}
		}
		checkAnyBytes(t, "segments behind a head", segsText(slices.Concat(head, behind)))
	}
}

// A stream's lists may share memory among themselves.
func TestStreamsOfSharedLists(t *testing.T) {
	f := shared(16, 16, [2]int{1, 1}, [2]int{1, 1})
	block, table, comps := cycled(64, 3, 0, -2), cycled(64, 7, 900), upTo(2)
	plane := slices.Repeat([][]int{block}, 4)
	s := impl.Stream{Frame: f, Tables: slices.Repeat([][]int{table}, 4), Coefs: impl.Coefs{Planes: [][][]int{plane, plane}}}
	for mode := range 2 {
		s.Mode = mode
		s.Script = []impl.Scan{{Comps: comps, To: 63, Low: 1}, {Comps: comps[:1], To: 63, High: 1}, {Comps: comps[1:], To: 63, High: 1}}
		checkStreamBack(t, "shared", s)
	}
	if !slices.Equal(block, cycled(64, 3, 0, -2)) || !slices.Equal(table, cycled(64, 7, 900)) || !slices.Equal(comps, upTo(2)) {
		t.Fatal("an argument was written into")
	}
}

// roomyStream is a stream in new memory with room behind each list, and a
// check that all of it is as it was.
func roomyStream(s impl.Stream) (impl.Stream, func(t *testing.T, what string)) {
	comps, note := guard(s.Frame.Comps, impl.Comp{Id: 99, H: 1, V: 1}), guard(s.Note, 77, 78)
	lists := roomy(impl.Coefs{Planes: [][][]int{s.Tables}})
	own := impl.Stream{Frame: s.Frame, Tables: lists.Planes[0], Coefs: roomy(s.Coefs), Mode: s.Mode, Script: scanRoom(s.Script), Note: note.list}
	own.Frame.Comps = comps.list
	tables, tablesAt := opened(lists)
	coefs, coefsAt := opened(own.Coefs)
	script := scanRoomOpened(own.Script)
	return own, func(t *testing.T, what string) {
		t.Helper()
		comps.check(t, what)
		note.check(t, what)
		if now, at := opened(lists); !sameCoefs(now, tables) || !slices.Equal(at, tablesAt) {
			t.Fatalf("%s: tables, or the room behind them, were written into", what)
		}
		if now, at := opened(own.Coefs); !sameCoefs(now, coefs) || !slices.Equal(at, coefsAt) {
			t.Fatalf("%s: coefficients, or the room behind them, were written into", what)
		}
		if !sameScript(scanRoomOpened(own.Script), script) {
			t.Fatalf("%s: a script, or the room behind it, was written into", what)
		}
	}
}

// checkStreamLeft calls all functions with room behind each list, and asks that
// all stays as it was and that they answer as without it.
func checkStreamLeft(t *testing.T, what string, s impl.Stream) {
	t.Helper()
	own, check := roomyStream(s)
	ok, b := impl.StreamOk(own), impl.WriteStream(own)
	check(t, what)
	if ok != streamRule(s) || !bytes.Equal(b, ruleStream(s)) {
		t.Fatalf("%s: another answer with other room behind the lists", what)
	}
}

// checkBytesLeft is the same of bytes that are read; what stands behind them
// would end them, or go on.
func checkBytesLeft(t *testing.T, what string, b []byte) {
	t.Helper()
	want, fault := ruleReadStream(b)
	for _, behind := range [][]byte{{255, 254}, {254}, {0}, {255, 5, 0, 0}} {
		g := guard(b, behind...)
		s, f := impl.ReadStream(g.list)
		g.check(t, what)
		if f != fault || !sameStream(s, want) {
			t.Fatalf("%s: another answer with other room behind the bytes", what)
		}
	}
}

func TestStreamsLeaveArguments(t *testing.T) {
	d := dice(1507)
	for range 60 {
		s := anyStream(&d, d.below(3))
		checkStreamLeft(t, "ok", s)
		for range 4 {
			x := cloneStream(s)
			wilder(&d)(&x)
			checkStreamLeft(t, "wild", x)
		}
		checkStreamLeft(t, "a table too few", altered(s, func(s *impl.Stream) { s.Tables = s.Tables[:3] }))
		checkStreamLeft(t, "a scan too few", altered(s, func(s *impl.Stream) { s.Script = s.Script[:len(s.Script)-1] }))
		b := impl.WriteStream(s)
		checkBytesLeft(t, "ok", b)
		checkBytesLeft(t, "without the end", b[:len(b)-2])
		checkBytesLeft(t, "without half of the end", b[:len(b)-1])
		checkBytesLeft(t, "turned", turnedBytes(&d, b))
	}
	checkStreamLeft(t, "the zero Stream", impl.Stream{})
	for mode := range 2 {
		s := parted(mode)
		for _, x := range flawsOf(s) {
			checkBytesLeft(t, x.what, segsText(x.put(streamParts(s))))
		}
	}
}

// listsOf are all lists of numbers of a stream.
func listsOf(s impl.Stream) [][]int {
	return slices.Concat(s.Tables, slices.Concat(s.Coefs.Planes...), compsLists(s.Script))
}

// ownLists writes over all of a stream, with its spare room, and tells whether
// no two of its lists share memory.
func ownLists(s impl.Stream) bool {
	own := writeOverLists(listsOf(s))
	scribble(s.Note, 251)
	scribble(s.Frame.Comps, impl.Comp{Id: 71})
	scribble(s.Script, impl.Scan{From: 72})
	outer := append(slices.Clone(s.Coefs.Planes), s.Tables)
	for i, lists := range outer {
		scribble(lists, []int{i})
	}
	for i, lists := range outer {
		for _, list := range lists {
			own = own && slices.Equal(list, []int{i})
		}
	}
	scribble(s.Coefs.Planes, [][]int{{73}})
	return own
}

func TestStreamsAreNewMemory(t *testing.T) {
	d := dice(1508)
	for range 80 {
		s := anyStream(&d, d.below(20))
		own, want := cloneStream(s), ruleStream(s)
		a, b := impl.WriteStream(own), impl.WriteStream(own)
		scribble(b, 99)
		if !sameStream(own, s) {
			t.Fatal("what was written shares memory with the stream")
		}
		ownLists(own)
		if !bytes.Equal(a, want) {
			t.Fatal("what was written shares memory with the stream or with another answer")
		}
		x, _ := impl.ReadStream(a)
		y, _ := impl.ReadStream(a)
		if !ownLists(y) {
			t.Fatal("two lists of one answer share memory")
		}
		if !bytes.Equal(a, want) {
			t.Fatal("what was read shares memory with the bytes")
		}
		scribble(a, 98)
		if !sameStream(x, s) {
			t.Fatal("what was read shares memory with the bytes or with another answer")
		}
	}
}

// streamAsked is a stream and bytes, and what was answered.
type streamAsked struct {
	s     impl.Stream
	text  []byte
	b     []byte
	read  impl.Stream
	fault impl.Fault
}

// same tells whether all functions answer as before.
func (a streamAsked) same() bool {
	x, f := impl.ReadStream(a.b)
	return impl.StreamOk(a.s) == streamRule(a.s) && bytes.Equal(impl.WriteStream(a.s), a.text) && f == a.fault && sameStream(x, a.read)
}

// streamsAsked are streams and bytes of which some are refused.
func streamsAsked(d *dice) []streamAsked {
	var list []streamAsked
	for i := range 24 {
		s := anyStream(d, i)
		a := streamAsked{s: s, b: impl.WriteStream(s)}
		if i%3 == 1 {
			a.b = turnedBytes(d, a.b)
		}
		if i%3 == 2 {
			wilder(d)(&a.s)
		}
		a.text = ruleStream(a.s)
		a.read, a.fault = ruleReadStream(a.b)
		list = append(list, a)
	}
	return list
}

// The same arguments give the same answers, whatever was asked for between,
// and asked from many goroutines at once.
func TestStreamsAtOnce(t *testing.T) {
	d := dice(1509)
	list := streamsAsked(&d)
	for range 3 {
		slices.Reverse(list)
		for _, a := range list {
			if !a.same() {
				t.Fatalf("other answers: %v, %v", a.s.Frame, a.fault)
			}
		}
	}
	var all sync.WaitGroup
	for range 8 {
		all.Add(1)
		go func() {
			defer all.Done()
			for _, a := range list {
				if !a.same() {
					t.Errorf("at once: other answers: %v, %v", a.s.Frame, a.fault)
				}
			}
		}()
	}
	all.Wait()
}
