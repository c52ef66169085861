package tests

import (
	"bytes"
	"math"
	"math/big"
	"runtime"
	"slices"
	"strconv"
	"strings"
	"sync"
	"testing"
	"time"

	"loop.example/g00139/impl"
)

// restarted is a frame with another Restart.
func restarted(f impl.Frame, n int) impl.Frame {
	f = cloneFrame(f)
	f.Restart = n
	return f
}

// ruleStretches are the places of a scan's blocks, by the unit each stands in.
func ruleStretches(f impl.Frame, comps []int) [][]impl.Place {
	wide, _ := ruleUnits(f)
	var all [][]impl.Place
	for i, p := range ruleOrder(f, comps) {
		unit, at := i, 0
		if len(comps) > 1 {
			unit = p.Row/f.Comps[p.Comp].V*wide + p.Col/f.Comps[p.Comp].H
		}
		if f.Restart > 0 {
			at = unit / f.Restart
		}
		if at == len(all) {
			all = append(all, nil)
		}
		all[at] = append(all[at], p)
	}
	return all
}

// hasDiff tells whether the first numbers are told as differences.
func hasDiff(s impl.Scan) bool { return s.High == 0 && s.From == 0 }

// toldBlock is what is told of one block: a difference or none, and the other
// numbers.
type toldBlock struct{ diff, rest []int }

// ruleTold looks back from each block for the one that was told before.
func ruleTold(f impl.Frame, c impl.Coefs, s impl.Scan) [][]toldBlock {
	var all [][]toldBlock
	for _, places := range ruleStretches(f, s.Comps) {
		var list []toldBlock
		for i, p := range places {
			nums := passFor(s).ruleOf(*blockIn(f, c, p), s)
			if !hasDiff(s) {
				list = append(list, toldBlock{rest: nums})
				continue
			}
			before := 0
			for j := i - 1; j >= 0; j-- {
				if q := places[j]; q.Comp == p.Comp {
					before = passFor(s).ruleOf(*blockIn(f, c, q), s)[0]
					break
				}
			}
			list = append(list, toldBlock{diff: []int{nums[0] - before}, rest: nums[1:]})
		}
		all = append(all, list)
	}
	return all
}

// codeWord is a symbol of a table, and the bits behind it as text.
type codeWord struct {
	table, symbol int
	bits          string
}

func ruleWords(list []toldBlock) []codeWord {
	var words []codeWord
	for _, x := range list {
		for _, n := range x.diff {
			size := ruleClass(n)
			words = append(words, codeWord{0, size, bitText([]impl.Field{{Len: size, Val: ruleBits(n)}})})
		}
		for _, item := range ruleRuns(x.rest) {
			words = append(words, codeWord{1, 16*item.Run + item.Size, bitText([]impl.Field{{Len: item.Size, Val: item.Bits}})})
		}
	}
	return words
}

// ruleTables are the lens of both tables for these words.
func ruleTables(words []codeWord) [2][]int {
	var tables [2][]int
	for table := range tables {
		freqs := make([]int, 256)
		for _, w := range words {
			if w.table == table {
				freqs[w.symbol]++
			}
		}
		tables[table] = make([]int, 256)
		if slices.Max(freqs) > 0 {
			tables[table] = ruleBest(freqs)
		}
	}
	return tables
}

// ruleCodeRun is nothing where PackBits gives nothing.
func ruleCodeRun(tables [2][]int, words []codeWord) []byte {
	codes := [2][]string{ruleCodes(tables[0]), ruleCodes(tables[1])}
	var text strings.Builder
	for _, w := range words {
		text.WriteString(codes[w.table][w.symbol] + w.bits)
	}
	if text.Len() > 8*60000 {
		return nil
	}
	return bytesOfText(text.String())
}

// ruleScanBins are the bins of a stretch.
func ruleScanBins(s impl.Scan, list []toldBlock) []impl.Bin {
	var bins []impl.Bin
	for _, x := range list {
		for _, n := range x.diff {
			bins = append(bins, ruleNumBins(n, 0)...)
		}
		last := -1
		for i, n := range x.rest {
			if n != 0 {
				last = i
			}
		}
		bins = append(bins, ruleNumBins(last+1, 20)...)
		for i, n := range x.rest[:last+1] {
			k := s.From + len(x.diff) + i
			bins = append(bins, ruleNumBins(n, 40+20*ruleClass(k))...)
		}
	}
	return bins
}

// ruleBinRun leaves many bins to EncodeBins, as the rule takes long for them.
func ruleBinRun(bins []impl.Bin) []byte {
	if len(bins) > 2000 {
		return impl.EncodeBins(bins)
	}
	b, _ := ruleEncode(bins)
	return b
}

// bytesOf are numbers as bytes.
func bytesOf(lists ...[]int) []byte {
	var out []byte
	for _, n := range slices.Concat(lists...) {
		out = append(out, byte(n))
	}
	return out
}

// scanPart is the part of a scan; the tables are those of mode 0.
func scanPart(s impl.Scan, mode int, tables ...[]int) impl.Seg {
	head := []int{mode, len(s.Comps)}
	tail := []int{s.From, s.To, s.High, s.Low}
	return segPart(5, bytesOf(append([][]int{head, s.Comps, tail}, tables...)...)...)
}

// laidSegs are a part, and run data with restarts between them.
func laidSegs(part impl.Seg, runs ...[]byte) []impl.Seg {
	segs := []impl.Seg{part}
	for i, run := range runs {
		if i > 0 {
			segs = append(segs, segRestart([]int{240, 241, 242, 243, 244, 245, 246, 247}[(i-1)&7]))
		}
		segs = append(segs, segRun(run...))
	}
	return segs
}

// ruleSegs is EncodeScan by the chapter's words.
func ruleSegs(f impl.Frame, c impl.Coefs, s impl.Scan, mode int) []impl.Seg {
	if !ruleCoefs(f, c) || !scanRule(f, s) || !between(0, 1, mode) {
		return nil
	}
	var runs [][]byte
	part := scanPart(s, mode)
	stretches := ruleTold(f, c, s)
	if mode == 0 {
		tables := ruleTables(ruleWords(slices.Concat(stretches...)))
		part = scanPart(s, mode, tables[:]...)
		for _, list := range stretches {
			runs = append(runs, ruleCodeRun(tables, ruleWords(list)))
		}
	} else {
		for _, list := range stretches {
			runs = append(runs, ruleBinRun(ruleScanBins(s, list)))
		}
	}
	if 2*len(runs) > 300 || slices.ContainsFunc(runs, func(run []byte) bool { return !between(1, 20000, len(run)) }) {
		return nil
	}
	return laidSegs(part, runs...)
}

// ruleSegsOk is SegsOk by which kinds stand side by side.
func ruleSegsOk(segs []impl.Seg) bool {
	kinds := "."
	for _, s := range segs {
		n := len(s.Data)
		switch {
		case s.Mark == 0 && between(1, 20000, n):
			kinds += "d"
		case between(1, 239, s.Mark) && n <= 20000:
			kinds += "p"
		case between(240, 247, s.Mark) && n == 0:
			kinds += "r"
		default:
			return false
		}
	}
	for _, pair := range []string{".d", "dd", ".r", "pr", "rr"} {
		if strings.Contains(kinds, pair) {
			return false
		}
	}
	return len(segs) <= 300
}

// ruleSource is what is read of one stretch.
type ruleSource interface {
	diff() (int, bool)
	rest(from, count int) ([]int, bool)
}

// textSource reads codes from a text of noughts and ones.
type textSource struct {
	text   string
	tables [2][]string
}

func (x *textSource) bits(n int) (string, bool) {
	if n > len(x.text) {
		return "", false
	}
	bits := x.text[:n]
	x.text = x.text[n:]
	return bits, true
}

func (x *textSource) symbol(table int) (int, bool) {
	at := slices.IndexFunc(x.tables[table], func(code string) bool { return code != "" && strings.HasPrefix(x.text, code) })
	if at < 0 {
		return 0, false
	}
	x.bits(len(x.tables[table][at]))
	return at, true
}

// number is the number of so many bits, as Bits of a class.
func (x *textSource) number(size int) (int, bool) {
	bits, ok := x.bits(size)
	if !ok || size == 0 {
		return 0, ok
	}
	n, _ := strconv.ParseInt(bits, 2, 64)
	return int(n), true
}

func (x *textSource) diff() (int, bool) {
	size, ok := x.symbol(0)
	if !ok || size > 15 {
		return 0, false
	}
	bits, ok := x.number(size)
	if !ok {
		return 0, false
	}
	for n := -32767; n <= 32767; n++ {
		if ruleClass(n) == size && ruleBits(n) == bits {
			return n, true
		}
	}
	return 0, false
}

func (x *textSource) rest(_, count int) ([]int, bool) {
	var items []impl.Item
	for told := 0; told < count; {
		symbol, ok := x.symbol(1)
		bits, also := 0, false
		if ok {
			bits, also = x.number(symbol % 16)
		}
		if !also {
			return nil, false
		}
		items = append(items, impl.Item{Run: symbol / 16, Size: symbol % 16, Bits: bits})
		if symbol == 0 {
			break
		}
		told += symbol/16 + 1
	}
	return ruleFromRuns(items, count)
}

// binSource reads bins as they come, in big whole numbers.
type binSource struct {
	model ruleModel
	code  *big.Int
	bytes []byte
}

func newBinSource(b []byte) *binSource {
	x := &binSource{model: newRuleModel(), code: new(big.Int), bytes: b}
	for range 4 {
		x.shift()
	}
	return x
}

func (x *binSource) shift() {
	next := byte(0)
	if len(x.bytes) > 0 {
		next, x.bytes = x.bytes[0], x.bytes[1:]
	}
	x.code.Add(x.code.Mul(x.code, big.NewInt(256)), big.NewInt(int64(next)))
}

func (x *binSource) ask(ctx int) int {
	bit := 0
	if part := x.model.part(ctx); x.code.Cmp(part) >= 0 {
		bit = 1
		x.code.Sub(x.code, part)
	}
	for small := x.model.take(ctx, bit); small; small = x.model.isSmall() {
		x.code.Rem(x.code, big.NewInt(16777216))
		x.shift()
		x.model.widen()
	}
	return bit
}

func (x *binSource) number(base int) int {
	if x.ask(base) == 1 {
		return 0
	}
	sign, class := 1-2*x.ask(base+1), 1
	for class < 15 && x.ask(base+1+class) == 1 {
		class++
	}
	level := 1
	for range class - 1 {
		level = 2*level + x.ask(base+18)
	}
	return sign * level
}

func (x *binSource) diff() (int, bool) { return x.number(0), true }

func (x *binSource) rest(from, count int) ([]int, bool) {
	told := x.number(20)
	if told < 0 || told > count {
		return nil, false
	}
	list := make([]int, count)
	for i := range told {
		list[i] = x.number(40 + 20*ruleClass(from+i))
	}
	return list, told == 0 || list[told-1] != 0
}

// ruleHead reads a scan's part: its scan, its mode and its tables.
func ruleHead(f impl.Frame, s impl.Seg) (impl.Scan, int, [2][]int, bool) {
	var tables [2][]int
	b := s.Data
	if s.Mark != 5 || len(b) < 2 || b[0] > 1 || len(b) != 6+int(b[1])+512*(1-int(b[0])) {
		return impl.Scan{}, 0, tables, false
	}
	var nums []int
	for _, x := range b {
		nums = append(nums, int(x))
	}
	n := nums[1]
	scan := impl.Scan{Comps: nums[2 : 2+n], From: nums[2+n], To: nums[3+n], High: nums[4+n], Low: nums[5+n]}
	ok := scanRule(f, scan)
	if b[0] == 0 {
		tables = [2][]int{nums[6+n : 262+n], nums[262+n:]}
		for _, lens := range tables {
			ok = ok && (ruleLensOk(lens) || slices.Max(lens) == 0)
		}
	}
	return scan, nums[0], tables, ok
}

// ruleMarks tells whether segments begin with so many stretches, and go on with
// another part or not at all.
func ruleMarks(segs []impl.Seg, stretches int) bool {
	for i := range stretches {
		if len(segs) < 2*i+2 || segs[2*i+1].Mark != 0 || i > 0 && segs[2*i].Mark != 240+(i-1)%8 {
			return false
		}
	}
	return len(segs) == 2*stretches || between(1, 239, segs[2*stretches].Mark)
}

// ruleAwaits tells whether a block has at the scan's places what a pass needs.
func ruleAwaits(block []int, s impl.Scan) bool {
	for _, place := range zigPlaces[s.From : s.To+1] {
		known := 0
		if s.High > 0 {
			known = toBit(block[place], s.High)
		}
		if block[place] != known {
			return false
		}
	}
	return true
}

func ruleSourceOf(mode int, tables [2][]int, run []byte) ruleSource {
	if mode == 1 {
		return newBinSource(run)
	}
	return &textSource{text: textOfBytes(run), tables: [2][]string{ruleCodes(tables[0]), ruleCodes(tables[1])}}
}

// ruleReadStretch puts a stretch into coefficients.
func ruleReadStretch(f impl.Frame, c impl.Coefs, places []impl.Place, s impl.Scan, x ruleSource) bool {
	var told []impl.Place
	firsts := map[impl.Place]int{}
	for _, p := range places {
		var nums []int
		from := s.From
		if hasDiff(s) {
			diff, ok := x.diff()
			if !ok {
				return false
			}
			for _, q := range told {
				if q.Comp == p.Comp {
					nums = []int{firsts[q]}
				}
			}
			if nums == nil {
				nums = []int{0}
			}
			nums[0] += diff
			firsts[p] = nums[0]
			from++
		}
		rest, ok := x.rest(from, s.To-from+1)
		block := blockIn(f, c, p)
		if !ok || !ruleAwaits(*block, s) {
			return false
		}
		*block = passFor(s).rulePut(*block, s, append(nums, rest...))
		if len(*block) == 0 {
			return false
		}
		told = append(told, p)
	}
	return true
}

// ruleReadScan is DecodeScan by the chapter's words.
func ruleReadScan(f impl.Frame, c impl.Coefs, segs []impl.Seg) (impl.Coefs, impl.Scan, int, int) {
	if !ruleSegsOk(segs) || len(segs) == 0 || !ruleCoefs(f, c) {
		return impl.Coefs{}, impl.Scan{}, -1, 0
	}
	s, mode, tables, ok := ruleHead(f, segs[0])
	if !ok {
		return impl.Coefs{}, impl.Scan{}, -1, 0
	}
	stretches, out := ruleStretches(f, s.Comps), cloneCoefs(c)
	ok = ruleMarks(segs, len(stretches))
	for i := 0; ok && i < len(stretches); i++ {
		ok = ruleReadStretch(f, out, stretches[i], s, ruleSourceOf(mode, tables, segs[2*i+1].Data))
	}
	if !ok || !ruleCoefs(f, out) {
		return impl.Coefs{}, impl.Scan{}, -1, 0
	}
	return out, s, mode, 2 * len(stretches)
}

// cutScan are coefficients of which the scan's numbers are known to a bit (-1:
// not at all), and all others are as they were.
func cutScan(c impl.Coefs, s impl.Scan, bit int) impl.Coefs {
	c = cloneCoefs(c)
	for _, comp := range s.Comps {
		for _, block := range c.Planes[comp] {
			for _, place := range zigPlaces[s.From : s.To+1] {
				block[place] = toBit(block[place], bit)
			}
		}
	}
	return c
}

// aheadOf is what is known ahead of a scan, behindOf what is known behind it.
func aheadOf(c impl.Coefs, s impl.Scan) impl.Coefs {
	if s.High == 0 {
		return cutScan(c, s, -1)
	}
	return cutScan(c, s, s.High)
}

func behindOf(c impl.Coefs, s impl.Scan) impl.Coefs { return cutScan(c, s, s.Low) }

// withoutOthers has noughts at all places that the scan does not name.
func withoutOthers(f impl.Frame, c impl.Coefs, s impl.Scan) impl.Coefs {
	out := ruleEmpty(f)
	for _, comp := range s.Comps {
		for i, block := range c.Planes[comp] {
			for _, place := range zigPlaces[s.From : s.To+1] {
				out.Planes[comp][i][place] = block[place]
			}
		}
	}
	return out
}

// checkEncoded holds EncodeScan against the rule, and answers the segments.
func checkEncoded(t *testing.T, what string, f impl.Frame, c impl.Coefs, s impl.Scan, mode int) []impl.Seg {
	t.Helper()
	want := ruleSegs(f, c, s, mode)
	got := impl.EncodeScan(f, c, s, mode)
	if !sameSegs(got, want) {
		t.Fatalf("%s, %v, %v, mode %d: %d segments %.300s, and not %d %.300s", what, f, s, mode, len(got), segsShown(got), len(want), segsShown(want))
	}
	if len(got) > 0 && !impl.SegsOk(got) {
		t.Fatalf("%s, %v, %v, mode %d: not SegsOk", what, f, s, mode)
	}
	return got
}

func segsShown(segs []impl.Seg) string {
	var b strings.Builder
	for _, s := range segs {
		b.WriteString(" " + strconv.Itoa(s.Mark) + ":" + strconv.Itoa(len(s.Data)))
		if s.Mark == 0 {
			b.WriteString(strings.ReplaceAll(strconv.Quote(string(s.Data)), "\\x", " "))
		}
	}
	return b.String()
}

// checkScanBack asks for promise 14: what was written is read, over empty
// coefficients in a first pass, and over such as have numbers at all other
// places.
func checkScanBack(t *testing.T, f impl.Frame, c impl.Coefs, s impl.Scan, mode int, segs []impl.Seg) {
	t.Helper()
	ahead, behind := aheadOf(c, s), behindOf(c, s)
	x, y, m, n := impl.DecodeScan(f, ahead, segs)
	if !sameCoefs(x, behind) || !sameScan(y, s) || m != mode || n != len(segs) {
		t.Fatalf("%v, %v, mode %d: read back as %v, mode %d, %d of %d segments", f, s, mode, y, m, n, len(segs))
	}
	if s.High > 0 {
		return
	}
	x, y, m, n = impl.DecodeScan(f, impl.EmptyCoefs(f), segs)
	if !sameCoefs(x, withoutOthers(f, behind, s)) || !sameScan(y, s) || m != mode || n != len(segs) {
		t.Fatalf("%v, %v, mode %d: over empty coefficients read back as %v, mode %d, %d of %d segments", f, s, mode, y, m, n, len(segs))
	}
}

// checkScanned holds a scan against the rule and reads it back.
func checkScanned(t *testing.T, what string, f impl.Frame, c impl.Coefs, s impl.Scan, mode int) []impl.Seg {
	t.Helper()
	segs := checkEncoded(t, what, f, c, s, mode)
	if len(segs) == 0 {
		t.Fatalf("%s, %v, %v, mode %d: nothing", what, f, s, mode)
	}
	checkScanBack(t, f, c, s, mode, segs)
	return segs
}

// checkScanRead holds DecodeScan of any segments against the rule, and answers
// how many were read.
func checkScanRead(t *testing.T, what string, f impl.Frame, c impl.Coefs, segs []impl.Seg) int {
	t.Helper()
	wantCoefs, wantScan, wantMode, want := ruleReadScan(f, c, segs)
	x, s, mode, n := impl.DecodeScan(f, c, segs)
	if n != want || mode != wantMode || !sameScan(s, wantScan) || !sameCoefs(x, wantCoefs) {
		t.Fatalf("%s, %v, %.300s: %v, mode %d, %d segments, and not %v, mode %d, %d", what, f, segsShown(segs), s, mode, n, wantScan, wantMode, want)
	}
	if n == 0 {
		if mode != -1 || !isZeroCoefs(x) || !sameScan(s, impl.Scan{}) {
			t.Fatalf("%s: refused with %v, %v, mode %d", what, x, s, mode)
		}
		return 0
	}
	// Promise 14 of what was read: all else is as it was.
	if !impl.CoefsOk(f, x) || !sameCoefs(cutScan(x, s, -1), cutScan(c, s, -1)) {
		t.Fatalf("%s, %v, %v: what was read is not ok, or other numbers were touched", what, f, s)
	}
	return n
}

func checkTaken(t *testing.T, what string, f impl.Frame, c impl.Coefs, segs []impl.Seg, n int) {
	t.Helper()
	if got := checkScanRead(t, what, f, c, segs); got != n {
		t.Fatalf("%s: %d segments were read, and not %d", what, got, n)
	}
}

func checkRefused(t *testing.T, what string, f impl.Frame, c impl.Coefs, segs []impl.Seg) {
	t.Helper()
	checkTaken(t, what, f, c, segs, 0)
}

// sparseCoefs have drawn numbers in all blocks that are not hidden: share out
// of a hundred are not 0, and these are at most this great.
func sparseCoefs(d *dice, f impl.Frame, share, most int) impl.Coefs {
	c := ruleEmpty(f)
	for _, p := range allPlaces(f) {
		if !isNeeded(f, p) {
			continue
		}
		block := *blockIn(f, c, p)
		for i := range block {
			if d.below(100) < share {
				block[i] = (d.below(2*most+1) - most) / (1 << d.below(4))
			}
		}
	}
	return c
}

// drawnCoefs are sparse, full, small or great.
func drawnCoefs(d *dice, f impl.Frame) impl.Coefs {
	share := []int{0, 2, 10, 30, 100}[d.below(5)]
	most := []int{1, 3, 40, impl.MaxLevel}[d.below(4)]
	return sparseCoefs(d, f, share, most)
}

// drawnPass is any scan that is ScanOk.
func drawnPass(d *dice, f impl.Frame) impl.Scan {
	sets := risingComps(len(f.Comps))
	s := impl.Scan{Comps: sets[d.below(len(sets))], Low: []int{0, 0, 1, 2, d.below(14)}[d.below(5)]}
	s.From, s.To = drawnSpan(d)
	s.High = d.below(2) * (s.Low + 1)
	return s
}

// drawnFrame has few blocks, of any H and V.
func drawnFrame(d *dice, shares [][][2]int) impl.Frame {
	f := shared(1+d.below(40), 1+d.below(40), shares[d.below(len(shares))]...)
	f.Restart = []int{0, 1, 1, 2, 3, 255}[d.below(6)]
	return f
}

// spansToTry are a single first wave, spans that begin with it, and spans that
// do not.
func spansToTry() [][2]int {
	return [][2]int{{0, 0}, {0, 1}, {0, 5}, {0, 63}, {1, 1}, {1, 5}, {1, 63}, {6, 63}, {31, 32}, {63, 63}}
}

func TestScanByHandWithCodes(t *testing.T) {
	// Units of 16 by 8, two of them; a unit has two blocks of the first
	// component and one of the second.
	f := restarted(shared(32, 8, [2]int{2, 1}, [2]int{1, 1}), 1)
	c := impl.EmptyCoefs(f)
	for i, n := range []int{5, 7, -2, -2} {
		c.Planes[0][i][0] = n
	}
	c.Planes[1][0][0], c.Planes[1][1][0] = 1, 1
	segs := impl.EncodeScan(f, c, firstScan(0, 0, 0, 0, 1), 0)
	// Differences 5, 2 and 1, then -2, 0 and 1: once 0 and 3 as classes, twice 1
	// and 2, and all codes have two bits. No symbol of the second table comes.
	head := slices.Concat([]byte{0, 2, 0, 1, 0, 0, 0, 0, 2, 2, 2, 2}, make([]byte, 252+256))
	want := []impl.Seg{
		segPart(5, head...),
		segRun(0b11_101_10_1, 0b0_01_1_1111), segRestart(240), segRun(0b10_01_00_01, 0b1_1111111),
	}
	if !sameSegs(segs, want) {
		t.Fatal(segs)
	}
	// In one stretch the differences are 5, 2, 1, -9, 0 and 0: twice 0, once 1,
	// 2, 3 and 4 as classes. 0, 3 and 4 have two bits, 1 and 2 three.
	f.Restart = 0
	segs = impl.EncodeScan(f, c, firstScan(0, 0, 0, 0, 1), 0)
	head = slices.Concat([]byte{0, 2, 0, 1, 0, 0, 0, 0, 2, 3, 3, 2, 2}, make([]byte, 251+256))
	if !sameSegs(segs, []impl.Seg{segPart(5, head...), segRun(0b01_101_111, 0b10_110_1_10, 0b0110_00_00)}) {
		t.Fatal(segs)
	}
}

func TestScanByHandWithBins(t *testing.T) {
	f := shared(16, 8, [2]int{1, 1})
	c := impl.EmptyCoefs(f)
	c.Planes[0][0][0], c.Planes[0][0][8] = 3, -1
	segs := impl.EncodeScan(f, c, firstScan(0, 63, 0, 0), 1)
	bin := func(ctx, bit int) impl.Bin { return impl.Bin{Ctx: ctx, Bit: bit} }
	bins := []impl.Bin{
		bin(0, 0), bin(1, 0), bin(2, 1), bin(3, 0), bin(18, 1), // the difference 3
		bin(20, 0), bin(21, 0), bin(22, 1), bin(23, 0), bin(38, 0), // two numbers
		bin(60, 1),                         // 0 at place 1
		bin(80, 0), bin(81, 1), bin(82, 0), // -1 at place 2
		bin(0, 0), bin(1, 1), bin(2, 1), bin(3, 0), bin(18, 1), // the difference -3
		bin(20, 1), // no numbers
	}
	if !sameSegs(segs, []impl.Seg{segPart(5, 1, 1, 0, 0, 63, 0, 0), segRun(impl.EncodeBins(bins)...)}) {
		t.Fatal(segs)
	}
	// Each stretch begins anew: the difference is 0, with likelihoods as at first.
	f.Restart = 1
	segs = impl.EncodeScan(f, c, firstScan(0, 63, 0, 0), 1)
	again := []impl.Bin{bin(0, 1), bin(20, 1)}
	if !sameSegs(segs, []impl.Seg{segPart(5, 1, 1, 0, 0, 63, 0, 0), segRun(impl.EncodeBins(bins[:14])...), segRestart(240), segRun(impl.EncodeBins(again)...)}) {
		t.Fatal(segs)
	}
	// Place 0 of a refining pass has a base of its own, and no difference.
	segs = impl.EncodeScan(f, c, fineScan(0, 2, 0, 0), 1)
	fine := []impl.Bin{
		bin(20, 0), bin(21, 0), bin(22, 1), bin(23, 0), bin(38, 1), // three numbers
		bin(40, 0), bin(41, 0), bin(42, 0), bin(60, 1), bin(80, 0), bin(81, 1), bin(82, 0), // 1, 0, -1
	}
	if !sameSegs(segs, []impl.Seg{segPart(5, 1, 1, 0, 0, 2, 1, 0), segRun(impl.EncodeBins(fine)...), segRestart(240), segRun(impl.EncodeBins(again[1:])...)}) {
		t.Fatal(segs)
	}
	// Where a first pass has no other numbers, that there are none is told.
	segs = impl.EncodeScan(f, c, firstScan(0, 0, 1, 0), 1)
	one := []impl.Bin{bin(0, 0), bin(1, 0), bin(2, 0), bin(20, 1)}
	if !sameSegs(segs, []impl.Seg{segPart(5, 1, 1, 0, 0, 0, 0, 1), segRun(impl.EncodeBins(one)...), segRestart(240), segRun(impl.EncodeBins(again)...)}) {
		t.Fatal(segs)
	}
}

// Promise 14, for drawn frames, coefficients, scans and both modes; all is held
// against the rule too.
func TestScansOfDrawnFrames(t *testing.T) {
	d := dice(14)
	shares := allShares()
	for range 500 {
		f := drawnFrame(&d, shares)
		c, s := drawnCoefs(&d, f), drawnPass(&d, f)
		for mode := range 2 {
			checkScanned(t, "drawn", f, c, s, mode)
		}
	}
}

// Each kind of span, first and refining, of one component and of several, whose
// units have more blocks than one and hidden ones among them.
func TestScansOfSpans(t *testing.T) {
	d := dice(141)
	for what, f := range fewBlocks() {
		for _, comps := range [][]int{{0}, {len(f.Comps) - 1}, upTo(len(f.Comps))} {
			for _, span := range spansToTry() {
				g := restarted(f, d.below(3))
				c := drawnCoefs(&d, g)
				low := d.below(3)
				for mode := range 2 {
					checkScanned(t, what, g, c, firstScan(span[0], span[1], low, comps...), mode)
					checkScanned(t, what, g, c, fineScan(span[0], span[1], low, comps...), mode)
				}
			}
		}
	}
}

// Each Low that there is, with numbers at the limits: differences of class 15
// come too.
func TestScansOfLows(t *testing.T) {
	f := restarted(shared(24, 8, [2]int{1, 1}), 2)
	c := impl.EmptyCoefs(f)
	c.Planes[0] = [][]int{flat(impl.MaxLevel), flat(-impl.MaxLevel), cycled(64, impl.MaxLevel, 0, -1, 5)}
	for low := range impl.MaxLow + 1 {
		for _, span := range spansToTry() {
			for mode := range 2 {
				checkScanned(t, "low", f, c, firstScan(span[0], span[1], low, 0), mode)
				checkScanned(t, "low", f, c, fineScan(span[0], span[1], low, 0), mode)
			}
		}
	}
	segs := impl.EncodeScan(f, c, firstScan(0, 0, 0, 0), 0)
	if len(segs) == 0 || segs[0].Data[7+15] == 0 || segs[0].Data[7+14] == 0 {
		t.Fatal("no difference of class 15", segs)
	}
}

// Numbers of every class behind every run, and noughts at the end or none.
func TestScansOfRuns(t *testing.T) {
	d := dice(142)
	f := shared(64, 64, [2]int{1, 1})
	c := impl.EmptyCoefs(f)
	for i, block := range c.Planes[0] {
		for k := i % 20; k < 64; k += 1 + d.below(i+1) {
			n := 1 << d.below(14)
			block[zigPlaces[k]] = n - 2*n*d.below(2)
		}
	}
	for _, s := range []impl.Scan{firstScan(0, 63, 0, 0), firstScan(1, 63, 0, 0), firstScan(0, 62, 3, 0), fineScan(0, 63, 2, 0)} {
		for mode := range 2 {
			for _, restart := range []int{0, 1, 7} {
				checkScanned(t, "runs", restarted(f, restart), c, s, mode)
			}
		}
	}
}

// As many stretches as Restart says: none, one for each unit, and just one
// where there are no more units than that.
func TestStretches(t *testing.T) {
	d := dice(143)
	for what, f := range fewBlocks() {
		c := sparseCoefs(&d, f, 20, 30)
		for _, comps := range risingComps(len(f.Comps)) {
			units := ruleUnitCount(f, comps)
			for _, restart := range []int{0, 1, 2, units - 1, units, units + 1, 255} {
				want := 1
				if restart > 0 {
					want = leastTimes(units, restart)
				}
				g := restarted(f, restart)
				for mode := range 2 {
					segs := checkScanned(t, what, g, c, firstScan(0, 5, 0, comps...), mode)
					if len(segs) != 2*want {
						t.Fatalf("%s, %v, Restart %d of %d units: %d segments", what, comps, restart, units, len(segs))
					}
				}
			}
		}
	}
}

// The ninth restart has the Mark of the first one again.
func TestRestartsBeginAnew(t *testing.T) {
	d := dice(144)
	f := restarted(shared(80, 16, [2]int{1, 1}, [2]int{1, 1}), 1)
	c := sparseCoefs(&d, f, 10, 9)
	for mode := range 2 {
		segs := checkScanned(t, "many restarts", f, c, firstScan(0, 63, 0, 0, 1), mode)
		var marks []int
		for _, s := range segs {
			if s.Mark >= 240 {
				marks = append(marks, s.Mark)
			}
		}
		if !slices.Equal(marks, []int{240, 241, 242, 243, 244, 245, 246, 247, 240, 241, 242, 243, 244, 245, 246, 247, 240, 241, 242}) {
			t.Fatal(marks)
		}
	}
}

// The tables are those of the whole scan; each stretch has the same bytes as
// alone, where its tables are the same.
func TestStretchesBeginAnew(t *testing.T) {
	d := dice(145)
	one, all := shared(8, 8, [2]int{1, 1}), restarted(shared(64, 8, [2]int{1, 1}), 1)
	block := scatter(&d)
	alone, c := impl.EmptyCoefs(one), impl.EmptyCoefs(all)
	alone.Planes[0][0] = block
	for i := range c.Planes[0] {
		c.Planes[0][i] = block
	}
	for mode := range 2 {
		for _, s := range []impl.Scan{firstScan(0, 63, 0, 0), firstScan(3, 63, 0, 0), fineScan(0, 63, 3, 0)} {
			x, y := impl.EncodeScan(one, alone, s, mode), impl.EncodeScan(all, c, s, mode)
			if len(x) != 2 || len(y) != 16 {
				t.Fatal(len(x), len(y))
			}
			for i := 1; i < len(y); i += 2 {
				if !bytes.Equal(y[i].Data, x[1].Data) {
					t.Fatalf("mode %d, %v: stretch %d is another one", mode, s, i/2)
				}
			}
		}
	}
}

// Of scans without differences the first table has no codes, of scans of the
// first wave alone the second one.
func TestTablesWithoutCodes(t *testing.T) {
	d := dice(146)
	f := shared(24, 16, [2]int{1, 1}, [2]int{1, 1})
	c := sparseCoefs(&d, f, 50, 100)
	none := make([]byte, 256)
	for _, s := range []impl.Scan{firstScan(1, 63, 0, 0), fineScan(0, 63, 0, 0, 1), fineScan(0, 0, 0, 1), firstScan(0, 0, 0, 0, 1), firstScan(0, 1, 0, 0)} {
		segs := checkScanned(t, "tables", f, c, s, 0)
		b := segs[0].Data[6+len(s.Comps):]
		if bytes.Equal(b[:256], none) == hasDiff(s) || bytes.Equal(b[256:], none) != (s.To == 0 && s.High == 0) {
			t.Fatal(s, b)
		}
	}
	// Empty coefficients: all differences are 0, and all blocks are at an end.
	for mode := range 2 {
		checkScanned(t, "empty", f, impl.EmptyCoefs(f), firstScan(0, 63, 0, 0, 1), mode)
		checkScanned(t, "empty", f, impl.EmptyCoefs(f), fineScan(5, 63, 0, 1), mode)
	}
}

// Promise 14, of all scans of a script, one behind the other.
func checkScripted(t *testing.T, f impl.Frame, c impl.Coefs, script []impl.Scan, mode int) {
	t.Helper()
	var segs []impl.Seg
	for _, s := range script {
		segs = append(segs, impl.EncodeScan(f, c, s, mode)...)
	}
	now, at := impl.EmptyCoefs(f), 0
	for _, s := range script {
		x, y, m, n := impl.DecodeScan(f, now, segs[at:])
		if n == 0 || m != mode || !sameScan(y, s) {
			t.Fatalf("%v of %v, mode %d: %v, mode %d, %d segments", s, script, mode, y, m, n)
		}
		now, at = x, at+n
	}
	if at != len(segs) || !sameCoefs(now, c) {
		t.Fatalf("%v, %v, mode %d: coefficients are not made again", f, script, mode)
	}
}

func TestScriptsMakeCoefsAgain(t *testing.T) {
	d := dice(147)
	frames := []impl.Frame{restarted(plainFrame(1), 0), restarted(plainFrame(2), 7), plainFrame(3), plainFrame(4)}
	for _, f := range fewBlocks() {
		frames = append(frames, restarted(f, d.below(4)))
	}
	for _, f := range frames {
		for mode := range 2 {
			for kind := range 3 {
				checkScripted(t, f, drawnCoefs(&d, f), impl.ScriptFor(f, kind), mode)
				checkScripted(t, f, sparseCoefs(&d, f, 10, 50), impl.ScriptFor(f, kind), mode)
			}
		}
	}
}

func TestDrawnScriptsMakeCoefsAgain(t *testing.T) {
	d := dice(148)
	shares := allShares()
	for range 40 {
		f := drawnFrame(&d, shares)
		c, script := drawnCoefs(&d, f), wholeScript(&d, f)
		if segs := len(ruleStretches(f, []int{0})) * len(script) * 2; segs > 200 {
			f.Restart = 0
		}
		checkScripted(t, f, c, script, d.below(2))
	}
}

// turnedByte is a change of one byte of one segment, turnedSegs one of the
// segments themselves.
func turnedByte(d *dice, segs []impl.Seg) []impl.Seg {
	segs = cloneSegs(segs)
	s := &segs[d.below(len(segs))]
	if len(s.Data) == 0 {
		s = &segs[1]
	}
	at := d.below(len(s.Data))
	if d.below(3) > 0 {
		at = d.below(min(12, len(s.Data)))
	}
	s.Data[at] = []byte{s.Data[at] ^ 1<<d.below(8), byte(d.below(256)), 0, 255, s.Data[at] + 1}[d.below(5)]
	return segs
}

func turnedSegs(d *dice, segs []impl.Seg) []impl.Seg {
	segs = cloneSegs(segs)
	at := d.below(len(segs))
	other := []impl.Seg{segPart(5, 1, 1, 0, 0, 0, 0, 0), segPart(9), segRun(3, 1), segRestart(240 + d.below(8))}[d.below(4)]
	switch d.below(6) {
	case 0:
		return slices.Delete(segs, at, at+1)
	case 1:
		return slices.Insert(segs, at, other)
	case 2:
		return append(segs, other)
	case 3:
		segs[at].Data = segs[at].Data[:d.below(len(segs[at].Data)+1)]
	case 4:
		segs[at].Mark = []int{0, 5, 4, 240 + d.below(8)}[d.below(4)]
	default:
		with := d.below(len(segs))
		segs[at], segs[with] = segs[with], segs[at]
	}
	return segs
}

// Promise 14 of segments that were turned here and there.
func TestScansThatWereTurned(t *testing.T) {
	d := dice(149)
	shares := allShares()
	read, refused := [2]int{}, [2]int{}
	for range 400 {
		f := drawnFrame(&d, shares)
		c, s, mode := sparseCoefs(&d, f, []int{3, 20, 60}[d.below(3)], []int{2, 30, 16383}[d.below(3)]), drawnPass(&d, f), d.below(2)
		segs, ahead := impl.EncodeScan(f, c, s, mode), aheadOf(c, s)
		for range 12 {
			turned := turnedByte(&d, segs)
			if d.below(3) == 0 {
				turned = turnedSegs(&d, segs)
			}
			if d.below(4) == 0 {
				turned = turnedByte(&d, segs)
				turned = turnedByte(&d, turned)
			}
			if checkScanRead(t, "turned", f, ahead, turned) > 0 {
				read[mode]++
			} else {
				refused[mode]++
			}
		}
	}
	if min(read[0], read[1], refused[0], refused[1]) < 200 {
		t.Fatal(read, refused)
	}
}

// Promise 14 of run data that nobody wrote.
func TestScansOfAnyRunData(t *testing.T) {
	d := dice(150)
	read := [2]int{}
	for i := range 600 {
		f := restarted(shared(8+d.below(17), 8, [2]int{1 + d.below(2), 1}, [2]int{1, 1}), d.below(3))
		s, mode := drawnPass(&d, f), i%2
		lens := [2][]int{make([]int, 256), make([]int, 256)}
		for symbol, l := range fullLens(&d, 16, 6) {
			lens[0][symbol%16] = l
		}
		for symbol, l := range fullLens(&d, 30, 9) {
			lens[1][symbol*8%256] = l
		}
		part := scanPart(s, mode)
		if mode == 0 {
			part = scanPart(s, mode, lens[:]...)
		}
		var runs [][]byte
		for range ruleStretches(f, s.Comps) {
			runs = append(runs, bytesThrown(&d, 1+d.below(60)))
		}
		if checkScanRead(t, "any", f, impl.EmptyCoefs(f), laidSegs(part, runs...)) > 0 {
			read[mode]++
		}
	}
	if read[1] < 20 {
		t.Fatal(read)
	}
}

// checkNoScan asks that nothing is written.
func checkNoScan(t *testing.T, what string, f impl.Frame, c impl.Coefs, s impl.Scan, mode int) {
	t.Helper()
	if got := impl.EncodeScan(f, c, s, mode); len(got) != 0 {
		t.Fatalf("%s, %v, %v, mode %d: %d segments", what, f, s, mode, len(got))
	}
}

func TestScansOfWrongArguments(t *testing.T) {
	d := dice(151)
	f := restarted(shared(17, 9, [2]int{2, 2}, [2]int{1, 1}), 1)
	c, s := sparseCoefs(&d, f, 30, 9), firstScan(0, 63, 0, 0, 1)
	segs := [2][]impl.Seg{checkScanned(t, "good", f, c, s, 0), checkScanned(t, "good", f, c, s, 1)}
	for _, mode := range append(far(), -1, 2, 3, 255, 256, 257) {
		if !between(0, 1, mode) {
			checkNoScan(t, "mode", f, c, s, mode)
		}
	}
	for mode := range 2 {
		for what, g := range wrongFrames() {
			checkNoScan(t, what, g, c, s, mode)
			checkRefused(t, what, g, impl.EmptyCoefs(f), segs[mode])
		}
		for what, x := range otherCounts(c) {
			checkNoScan(t, what, f, x, s, mode)
			checkRefused(t, what, f, x, segs[mode])
		}
		for what, x := range badScans(2) {
			checkNoScan(t, what, f, c, x, mode)
		}
		for _, n := range []int{impl.MaxLevel + 1, -impl.MaxLevel - 1, math.MinInt, math.MaxInt} {
			x := cloneCoefs(c)
			x.Planes[1][1][63] = n
			checkNoScan(t, "a number past the limit", f, x, firstScan(0, 0, 0, 0), mode)
			x = impl.EmptyCoefs(f)
			x.Planes[1][1][63] = n
			checkRefused(t, "a number past the limit", f, x, segs[mode])
		}
		x := cloneCoefs(c)
		(*blockIn(f, x, impl.Place{Col: 3}))[5] = 1
		checkNoScan(t, "a number in a hidden block", f, x, firstScan(0, 0, 0, 1), mode)
		x = impl.EmptyCoefs(f)
		(*blockIn(f, x, impl.Place{Col: 3}))[5] = 1
		checkRefused(t, "a number in a hidden block", f, x, segs[mode])
	}
}

// Each field of the scan past its limits, in what is read: the part tells it in
// bytes.
func TestScanPartsThatTellNoScan(t *testing.T) {
	f := shared(8, 8, [2]int{1, 1}, [2]int{1, 1})
	lens := with(make([]int, 256), 0, 1)
	for mode := range 2 {
		tables := [][]int{lens, lens}
		if mode == 1 {
			tables = nil
		}
		run := bytesOfText(strings.Repeat("0", 200))
		if mode == 1 {
			run = impl.EncodeBins(ruleListBins(make([]int, 1), 0))
		}
		for what, s := range badScans(2) {
			checkRefused(t, what, f, impl.EmptyCoefs(f), laidSegs(scanPart(s, mode, tables...), run))
		}
		taken := 0
		for from := range 70 {
			for to := range 70 {
				for _, bits := range [][2]int{{0, 0}, {1, 0}, {0, 13}, {14, 13}, {0, 14}, {15, 14}, {2, 0}, {13, 13}} {
					s := impl.Scan{Comps: []int{1}, From: from, To: to, High: bits[0], Low: bits[1]}
					_, got, _, n := impl.DecodeScan(f, impl.EmptyCoefs(f), laidSegs(scanPart(s, mode, tables...), run))
					if ok := mode == 0 && scanRule(f, s); ok && (n != 2 || !sameScan(got, s)) || !scanRule(f, s) && n != 0 {
						t.Fatal(mode, s, n, got)
					}
					if n > 0 {
						taken++
					}
				}
			}
		}
		if mode == 0 && taken != 4*64*65/2 {
			t.Fatal(taken)
		}
	}
}

// rowsOf is a frame of so many blocks of one component, beside and below one
// another.
func rowsOf(wide, high, restart int) impl.Frame {
	return restarted(shared(8*wide, 8*high, [2]int{1, 1}), restart)
}

// 150 stretches make 300 segments. No frame has 151 units, nor 301 or 302, so
// that 152 stretches are the next that there can be.
func TestScansOfManyStretches(t *testing.T) {
	d := dice(152)
	for mode := range 2 {
		for _, x := range []struct{ wide, high, restart, stretches int }{
			{16, 9, 1, 144}, {15, 10, 1, 150}, {30, 5, 1, 150}, {19, 8, 1, 152}, {17, 9, 1, 153}, {16, 16, 1, 256}, {16, 16, 2, 128}, {1, 32, 1, 32},
		} {
			f := rowsOf(x.wide, x.high, x.restart)
			c, s := sparseCoefs(&d, f, 3, 4), firstScan(0, 63, 0, 0)
			if x.stretches > 150 {
				checkNoScan(t, "stretches", f, c, s, mode)
				continue
			}
			if segs := checkScanned(t, "stretches", f, c, s, mode); len(segs) != 2*x.stretches {
				t.Fatal(x, len(segs))
			}
		}
		f := restarted(shared(8*30, 8*5, [2]int{1, 1}, [2]int{1, 1}), 1)
		checkScanned(t, "units", f, impl.EmptyCoefs(f), firstScan(0, 0, 0, 0, 1), mode)
		f.Width, f.Height = 8*19, 8*8
		checkNoScan(t, "units", f, impl.EmptyCoefs(f), firstScan(0, 0, 0, 0, 1), mode)
	}
}

// In a scan of waves 1 to 63 each number of class 9 has a code of one bit and
// nine more, each of class 8 one bit less: 160000 bits are 20000 bytes.
func TestScansOfMuchDataWithCodes(t *testing.T) {
	f := rowsOf(16, 16, 0)
	s := firstScan(1, 63, 0, 0)
	filled := func(smaller int) impl.Coefs {
		c := impl.EmptyCoefs(f)
		for i := range 256 * 63 {
			n := 511
			if i < smaller {
				n = -255
			}
			c.Planes[0][i/63][1+i%63] = n
		}
		return c
	}
	for smaller, size := range map[int]int{1280: 20000, 1281: 20000, 1287: 20000, 1288: 19999} {
		segs := checkScanned(t, "much", f, filled(smaller), s, 0)
		if len(segs) != 2 || len(segs[1].Data) != size {
			t.Fatal(smaller, len(segs))
		}
	}
	for _, smaller := range []int{1279, 1272, 1} {
		checkNoScan(t, "a byte too many", f, filled(smaller), s, 0)
	}
	// With a restart between, each stretch has half of it.
	f.Restart = 128
	checkScanned(t, "two stretches", f, filled(1279), s, 0)
}

// What is too much of one stretch is too much of the scan; here it is the
// second one, and so much that PackBits takes it no more or would still do so.
func TestScansOfMuchDataInOneStretch(t *testing.T) {
	for comps, mode := range map[int]int{2: 0, 4: 0, 3: 1} {
		f := restarted(shared(128, 128, slices.Repeat([][2]int{{1, 1}}, comps)...), 128)
		s, c := firstScan(1, 63, 0, upTo(comps)...), impl.EmptyCoefs(f)
		checkScanned(t, "empty", f, c, s, mode)
		for _, plane := range c.Planes {
			for i := 128; i < 256; i++ {
				plane[i] = cycled(64, 16383, -9000, 8192)
			}
		}
		if mode == 0 {
			words := ruleWords(ruleTold(f, c, s)[1])
			if bits := 15 * len(words); (bits > 8*60000) != (comps == 4) || bits <= 8*20000 {
				t.Fatal(bits)
			}
		}
		checkNoScan(t, "the second stretch", f, c, s, mode)
	}
}

// binsSize is how many bytes a scan's only stretch has, whatever the limit.
func binsSize(f impl.Frame, c impl.Coefs, s impl.Scan) int {
	return len(impl.EncodeBins(ruleScanBins(s, ruleTold(f, c, s)[0])))
}

// hardNumber is drawn so that each of its bins might as well be another one.
func hardNumber(d *dice) int {
	if d.below(2) == 0 {
		return 0
	}
	level := 1
	for level < 8192 && d.below(2) == 0 {
		level = 2*level + d.below(2)
	}
	return level - 2*level*d.below(2)
}

// As many numbers as make fewer than 20000 bytes, and behind them one more, of
// another class from try to try.
func TestScansOfMuchDataWithBins(t *testing.T) {
	d := dice(153)
	f := shared(128, 128, [2]int{1, 1}, [2]int{1, 1}, [2]int{1, 1}, [2]int{1, 1})
	s := firstScan(1, 63, 0, 0, 1, 2, 3)
	nums := make([]int, 1024*63)
	for i := range nums {
		nums[i] = hardNumber(&d)
	}
	filled := func(count, last int) impl.Coefs {
		c := impl.EmptyCoefs(f)
		for i, n := range append(slices.Clone(nums[:count]), last) {
			c.Planes[i/63%4][i/63/4][zigPlaces[1+i%63]] = n
		}
		return c
	}
	low, high := 0, len(nums)-1
	for high-low > 1 {
		if middle := (low + high) / 2; binsSize(f, filled(middle, 0), s) < 20000 {
			low = middle
		} else {
			high = middle
		}
	}
	sizes := map[int]int{}
	for class := range 14 {
		c := filled(low, 1<<class)
		size := binsSize(f, c, s)
		if size > 20000 {
			checkNoScan(t, "too many bytes", f, c, s, 1)
		} else if segs := impl.EncodeScan(f, c, s, 1); len(segs) != 2 || len(segs[1].Data) != size {
			t.Fatal(size, len(segs))
		}
		sizes[size]++
	}
	if sizes[20000] == 0 || sizes[20001] == 0 {
		t.Fatal("no scan of just so many bytes", sizes)
	}
}

// numbersOfBins are at most 63 numbers, the last of them not 0, that have so
// many bins at any base, and how many there are of them.
func numbersOfBins(bins int) []int {
	for count := 63; count > 0; count-- {
		// 0 has one bin, a number of class c two for each bit and one more.
		over := bins - count
		if over < 2 || over%2 != 0 || over > 28*count {
			continue
		}
		list := make([]int, count)
		for i := count - 1; i >= 0; i-- {
			class := min(14, over/2)
			if class > 0 {
				list[i] = 1<<class - 1
			}
			over -= 2 * class
		}
		return list
	}
	return nil
}

// ofBins are coefficients whose waves 1 to 63 have so many bins in mode 1.
func ofBins(t *testing.T, f impl.Frame, bins int) impl.Coefs {
	c, s := impl.EmptyCoefs(f), firstScan(1, 63, 0, 0)
	left := bins - len(c.Planes[0])
	for i := range c.Planes[0] {
		if left <= 0 {
			break
		}
		list := slices.Repeat([]int{impl.MaxLevel}, 63)
		for count := 63; count > 0 && left < 4000; count-- {
			// What tells how many there are has bins too, and the 0 for none goes.
			now := numbersOfBins(left + 1 - len(ruleNumBins(count, 20)))
			if len(now) == count {
				list = now
				break
			}
		}
		copy(c.Planes[0][i], fromWaves(append([]int{0}, list...)))
		left -= len(ruleScanBins(s, []toldBlock{{rest: list}})) - 1
	}
	if got := len(ruleScanBins(s, ruleTold(f, c, s)[0])); got != bins {
		t.Fatalf("%d bins, and not %d", got, bins)
	}
	return c
}

// fromWaves is the block of numbers in the order of ZigZag, noughts behind them.
func fromWaves(list []int) []int {
	block := make([]int, 64)
	for k, n := range list {
		block[zigPlaces[k]] = n
	}
	return block
}

// Few bytes may be of more bins than EncodeBins takes.
func TestScansOfManyBins(t *testing.T) {
	f := rowsOf(16, 16, 0)
	s := firstScan(1, 63, 0, 0)
	for _, bins := range []int{199999, 200000} {
		c := ofBins(t, f, bins)
		segs := checkScanned(t, "bins", f, c, s, 1)
		if len(segs) != 2 || len(segs[1].Data) > 10000 {
			t.Fatal(len(segs))
		}
	}
	for _, bins := range []int{200001, 200002} {
		c := ofBins(t, f, bins)
		checkNoScan(t, "bins", f, c, s, 1)
		// The chapter names no such limit for what is read.
		b, _ := ruleEncode(ruleScanBins(s, ruleTold(f, c, s)[0]))
		checkScanBack(t, f, c, s, 1, laidSegs(scanPart(s, 1), b))
	}
}

// What may stand behind a scan, and what may not.
func TestScansWithMoreBehind(t *testing.T) {
	d := dice(154)
	for _, f := range []impl.Frame{rowsOf(2, 2, 0), rowsOf(2, 2, 1), rowsOf(3, 3, 1)} {
		c, s := sparseCoefs(&d, f, 20, 9), firstScan(0, 63, 0, 0)
		for mode := range 2 {
			segs, ahead := impl.EncodeScan(f, c, s, mode), impl.EmptyCoefs(f)
			n := len(segs)
			checkTaken(t, "nothing behind", f, ahead, segs, n)
			for _, mark := range []int{1, 5, 9, 239} {
				checkTaken(t, "a part", f, ahead, append(cloneSegs(segs), segPart(mark)), n)
				checkTaken(t, "a part and run data", f, ahead, append(cloneSegs(segs), segPart(mark, 1), segRun(7)), n)
			}
			checkTaken(t, "the scan again", f, ahead, append(cloneSegs(segs), segs...), n)
			for mark := 240; mark <= 247; mark++ {
				checkRefused(t, "a restart", f, ahead, append(cloneSegs(segs), segRestart(mark)))
				checkRefused(t, "a stretch", f, ahead, append(cloneSegs(segs), segRestart(mark), segs[1]))
				checkRefused(t, "a stretch and a part", f, ahead, append(cloneSegs(segs), segRestart(mark), segs[1], segPart(9)))
			}
			checkRefused(t, "run data", f, ahead, append(cloneSegs(segs), segRun(1)))
			for _, mark := range []int{-1, 248, 255, 256} {
				checkRefused(t, "no segment", f, ahead, append(cloneSegs(segs), impl.Seg{Mark: mark}))
			}
			// The segments far behind have to be ok too, and not too many.
			checkRefused(t, "too much far behind", f, ahead, append(cloneSegs(segs), segPart(9), segPart(9, sevens(20001)...)))
			checkTaken(t, "much far behind", f, ahead, append(cloneSegs(segs), segPart(9), segPart(9, sevens(20000)...)), n)
			checkTaken(t, "300", f, ahead, append(cloneSegs(segs), manySegs(300-n)...), n)
			checkRefused(t, "301", f, ahead, append(cloneSegs(segs), manySegs(301-n)...))
			checkRefused(t, "a part ahead", f, ahead, append([]impl.Seg{segPart(9)}, segs...))
			checkRefused(t, "no part", f, ahead, segs[1:])
			checkRefused(t, "nothing", f, ahead, nil)
			checkRefused(t, "the part alone", f, ahead, segs[:1])
			checkRefused(t, "the part and another one", f, ahead, []impl.Seg{segs[0], segPart(9), segs[1]})
			checkRefused(t, "empty run data", f, ahead, append([]impl.Seg{segs[0], {}}, segs[2:]...))
			for _, mark := range []int{0, 1, 4, 6, 240, 245} {
				other := cloneSegs(segs)
				other[0].Mark = mark
				checkRefused(t, "another Mark", f, ahead, other)
			}
		}
	}
}

// Each stretch left out, each restart with each other Mark, and stretches that
// a frame with another Restart wants.
func TestScansOfOtherStretches(t *testing.T) {
	d := dice(155)
	f := rowsOf(4, 3, 1)
	c, s := sparseCoefs(&d, f, 20, 9), firstScan(0, 63, 0, 0)
	for mode := range 2 {
		segs, ahead := impl.EncodeScan(f, c, s, mode), impl.EmptyCoefs(f)
		if len(segs) != 24 {
			t.Fatal(len(segs))
		}
		for i := 2; i < 24; i += 2 {
			checkRefused(t, "too few", f, ahead, segs[:i])
			checkRefused(t, "too few, and a part", f, ahead, append(cloneSegs(segs[:i]), segPart(9)))
			checkRefused(t, "ends with a restart", f, ahead, segs[:i+1])
			checkRefused(t, "one left out", f, ahead, slices.Delete(cloneSegs(segs), i, i+2))
			for mark := 240; mark <= 247; mark++ {
				other := cloneSegs(segs)
				other[i].Mark = mark
				if mark == 240+(i/2-1)%8 {
					checkTaken(t, "the right Mark", f, ahead, other, 24)
				} else {
					checkRefused(t, "another Mark", f, ahead, other)
				}
			}
			for _, other := range []impl.Seg{segRun(1, 2), segPart(5), segPart(240 - 1)} {
				x := cloneSegs(segs)
				x[i] = other
				checkRefused(t, "no restart", f, ahead, x)
			}
			for _, other := range []impl.Seg{segRestart(240), segPart(7, 1)} {
				x := cloneSegs(segs)
				x[i+1] = other
				checkRefused(t, "no run data", f, ahead, x)
			}
		}
		for restart, want := range map[int]int{0: 1, 1: 12, 2: 6, 3: 4, 4: 3, 5: 3, 6: 2, 11: 2, 12: 1, 13: 1, 255: 1} {
			g := restarted(f, restart)
			other := impl.EncodeScan(g, c, s, mode)
			for r := range 14 {
				if n := checkScanRead(t, "Restart", restarted(f, r), ahead, other); r == restart && n != 2*want {
					t.Fatal(restart, r, n)
				}
			}
		}
	}
}

// Parts of every length around the right one, and with other modes and tables.
func TestScanParts(t *testing.T) {
	f := shared(8, 8, [2]int{1, 1}, [2]int{1, 1})
	c, s := impl.EmptyCoefs(f), firstScan(0, 63, 0, 0, 1)
	for mode := range 2 {
		segs := impl.EncodeScan(f, c, s, mode)
		if size := []int{8 + 512, 8}[mode]; len(segs[0].Data) != size {
			t.Fatal(len(segs[0].Data))
		}
		checkTaken(t, "as it is", f, c, segs, 2)
		for size := range 1100 {
			other := cloneSegs(segs)
			other[0].Data = append(other[0].Data, sevens(1100)...)[:size]
			if n := checkScanRead(t, "length", f, c, other); (n > 0) != (size == len(segs[0].Data)) {
				t.Fatal(mode, size, n)
			}
		}
		for value := range 256 {
			for at := range 8 {
				other := cloneSegs(segs)
				other[0].Data[at] = byte(value)
				checkScanRead(t, "a byte of the part", f, c, other)
			}
		}
		// As many components as the frame has, and one more.
		for n := range 6 {
			x := s
			x.Comps = upTo(n)
			tables := [][]int{make([]int, 256), make([]int, 256)}
			checkScanRead(t, "components", f, c, laidSegs(scanPart(x, mode, tables[:2-2*mode]...), segs[1].Data))
		}
	}
}

// lensOf are the lens of 256 symbols, of these as told and of all others 0.
func lensOf(lens map[int]int) []int {
	list := make([]int, 256)
	for symbol, l := range lens {
		list[symbol] = l
	}
	return list
}

// coded are segments in mode 0 whose run data are these texts of bits, filled
// up with ones.
func coded(s impl.Scan, diffs, runs map[int]int, texts ...string) []impl.Seg {
	var list [][]byte
	for _, text := range texts {
		list = append(list, bytesOfText(text))
	}
	return laidSegs(scanPart(s, 0, lensOf(diffs), lensOf(runs)), list...)
}

// Tables that are none, and such as have no codes.
func TestScanTables(t *testing.T) {
	f := rowsOf(1, 1, 0)
	c := impl.EmptyCoefs(f)
	diffs, runs := map[int]int{0: 1}, map[int]int{0: 1}
	whole, first, behind := firstScan(0, 63, 0, 0), firstScan(0, 0, 0, 0), firstScan(1, 63, 0, 0)
	checkTaken(t, "both", f, c, coded(whole, diffs, runs, "00"), 2)
	checkRefused(t, "no first table", f, c, coded(whole, nil, runs, "00"))
	checkRefused(t, "no second table", f, c, coded(whole, diffs, nil, "00"))
	checkRefused(t, "no table", f, c, coded(whole, nil, nil, "00"))
	checkTaken(t, "no second one is needed", f, c, coded(first, diffs, nil, "0"), 2)
	checkTaken(t, "no second one is needed, and there is one", f, c, coded(first, diffs, map[int]int{7: 16}, "0"), 2)
	checkTaken(t, "no first one is needed", f, c, coded(behind, nil, runs, "0"), 2)
	checkTaken(t, "no first one is needed, and there is one", f, c, coded(behind, map[int]int{200: 1}, runs, "0"), 2)
	checkTaken(t, "no first one is needed", f, c, coded(fineScan(0, 63, 0, 0), nil, runs, "0"), 2)
	for what, wrong := range map[string]map[int]int{
		"17":           {0: 17},
		"255":          {0: 255},
		"17 elsewhere": {0: 1, 255: 17},
		"too many":     {0: 1, 1: 1, 2: 16},
	} {
		checkRefused(t, "first table: "+what, f, c, coded(whole, wrong, runs, "00"))
		checkRefused(t, "first table, not needed: "+what, f, c, coded(behind, wrong, runs, "0"))
		checkRefused(t, "second table: "+what, f, c, coded(whole, diffs, wrong, "00"))
		checkRefused(t, "second table, not needed: "+what, f, c, coded(first, diffs, wrong, "0"))
	}
	// Codes of 16 bits, and all that there can be.
	checkTaken(t, "16 bits", f, c, coded(first, map[int]int{0: 16}, nil, strings.Repeat("0", 16)), 2)
	checkTaken(t, "full", f, c, coded(first, map[int]int{0: 1, 1: 2, 9: 2}, nil, "0"), 2)
	checkTaken(t, "not full", f, c, coded(first, map[int]int{0: 2, 1: 2}, nil, "00"), 2)
	for _, text := range []string{"1", "10", "11"} {
		checkRefused(t, "no code", f, c, coded(first, map[int]int{0: 2, 1: 2}, nil, text))
	}
	checkRefused(t, "no code", f, c, coded(whole, diffs, map[int]int{0: 2, 1: 2}, "010"))
	checkTaken(t, "a code", f, c, coded(whole, diffs, map[int]int{0: 2, 1: 2}, "000"), 2)
}

// Classes of differences, each with the numbers that it may bring.
func TestScanDiffs(t *testing.T) {
	f := rowsOf(1, 1, 0)
	c := impl.EmptyCoefs(f)
	for symbol := range 256 {
		for _, text := range []string{"0", "0" + strings.Repeat("1", 15), "00" + strings.Repeat("1", 14), "0" + strings.Repeat("0", 31)} {
			for _, low := range []int{0, 1, 13} {
				n := checkScanRead(t, "class", f, c, coded(firstScan(0, 0, low, 0), map[int]int{symbol: 1}, nil, text))
				if symbol > 15 && n > 0 {
					t.Fatal(symbol, n)
				}
			}
		}
	}
	// 15 is a class, and its numbers are too great for the first block; behind
	// one of -16383 they may not be.
	two := rowsOf(2, 1, 0)
	lens := map[int]int{14: 1, 15: 2, 16: 2}
	lowest, least, most := "0"+strings.Repeat("0", 14), strings.Repeat("1", 1)+strings.Repeat("0", 14), "1"+strings.Repeat("1", 14)
	scan := firstScan(0, 0, 0, 0)
	checkRefused(t, "16384", f, c, coded(scan, lens, nil, "10"+least))
	checkRefused(t, "32767", f, c, coded(scan, lens, nil, "10"+most))
	checkRefused(t, "symbol 16", f, c, coded(scan, lens, nil, "11"+least+"0"))
	checkTaken(t, "-16383", f, c, coded(scan, lens, nil, lowest), 2)
	e := impl.EmptyCoefs(two)
	for text, n := range map[string]int{"10" + least: 1, "10" + "1" + strings.Repeat("1", 13) + "0": 16383} {
		segs := coded(scan, lens, nil, lowest+text)
		checkTaken(t, "class 15", two, e, segs, 2)
		if x, _, _, _ := impl.DecodeScan(two, e, segs); x.Planes[0][0][0] != -16383 || x.Planes[0][1][0] != n {
			t.Fatal(x.Planes[0][0][0], x.Planes[0][1][0], n)
		}
	}
	checkRefused(t, "16384 behind -16383", two, e, coded(scan, lens, nil, lowest+"10"+most))
	checkRefused(t, "symbol 16 behind", two, e, coded(scan, lens, nil, lowest+"11"+most+"1"))
	// What is put is as great as Low makes it.
	for low := range impl.MaxLow + 1 {
		best := impl.MaxLevel >> low
		for _, n := range []int{best, -best, best + 1, -best - 1} {
			size := ruleClass(n)
			text := "0" + bitText([]impl.Field{{Len: size, Val: ruleBits(n)}})
			got := checkScanRead(t, "level", f, c, coded(firstScan(0, 0, low, 0), map[int]int{size: 1}, nil, text))
			if (got > 0) != between(-best, best, n) {
				t.Fatal(low, n, got)
			}
			bins := impl.EncodeBins(slices.Concat(ruleNumBins(n, 0), ruleNumBins(0, 20)))
			got = checkScanRead(t, "level", f, c, laidSegs(scanPart(firstScan(0, 0, low, 0), 1), bins))
			if (got > 0) != between(-best, best, n) {
				t.Fatal(low, n, got)
			}
		}
	}
}

// wordCodes are the codes of a second table with all symbols that are used.
func wordCodes(items []impl.Item) (map[int]int, string) {
	lens := map[int]int{}
	for _, x := range items {
		lens[16*x.Run+x.Size] = 8
	}
	codes, text := ruleCodes(lensOf(lens)), ""
	for _, x := range items {
		text += codes[16*x.Run+x.Size] + bitText([]impl.Field{{Len: x.Size, Val: x.Bits}})
	}
	return lens, text
}

// Items by the chapter's words, and such as no numbers give.
func TestScanItems(t *testing.T) {
	f := rowsOf(1, 1, 0)
	c := impl.EmptyCoefs(f)
	one := func(run int) impl.Item { return impl.Item{Run: run, Size: 1, Bits: 1} }
	none := func(run int) impl.Item { return impl.Item{Run: run} }
	repeat := func(n int, items ...impl.Item) []impl.Item { return slices.Repeat(items, n) }
	for _, x := range []struct {
		what  string
		count int
		items []impl.Item
		ok    bool
	}{
		{"noughts", 63, []impl.Item{ending}, true},
		{"noughts, one wave", 1, []impl.Item{ending}, true},
		{"one wave", 1, []impl.Item{one(0)}, true},
		{"a nought too many", 1, []impl.Item{one(1)}, false},
		{"two waves", 2, []impl.Item{one(1)}, true},
		{"two waves, and noughts", 2, []impl.Item{one(0), ending}, true},
		{"two waves, too many", 2, []impl.Item{one(0), one(1)}, false},
		{"all", 63, repeat(63, one(0)), true},
		{"all of them but one", 63, append(repeat(62, one(0)), ending), true},
		{"all by runs", 63, append(repeat(3, one(15)), one(14)), true},
		{"one past all by runs", 63, repeat(4, one(15)), false},
		{"sixteen", 17, []impl.Item{sixteen, one(0)}, true},
		{"sixteen, and too few behind", 16, []impl.Item{sixteen, one(0)}, false},
		{"sixteen at the end", 16, []impl.Item{sixteen}, false},
		{"sixteen past the end", 15, []impl.Item{sixteen}, false},
		{"sixteen and noughts", 63, []impl.Item{sixteen, ending}, false},
		{"three times sixteen", 63, append(repeat(3, sixteen), one(14)), true},
		{"three times sixteen, one past", 63, append(repeat(3, sixteen), one(15)), false},
		{"four times sixteen", 63, repeat(4, sixteen), false},
		{"three times sixteen and noughts", 63, append(repeat(3, sixteen), ending), false},
		{"a run without a number", 63, []impl.Item{none(1), ending}, false},
		{"a run of 14 without a number", 63, []impl.Item{none(14), one(0), ending}, false},
		{"a run without a number at the end", 2, []impl.Item{none(1)}, false},
		{"a great number", 2, []impl.Item{{Run: 1, Size: 14, Bits: 16383}}, true},
		{"too great a number", 2, []impl.Item{{Run: 1, Size: 15, Bits: 16384}}, false},
		{"too small a number", 2, []impl.Item{{Run: 1, Size: 15, Bits: 0}}, false},
	} {
		lens, text := wordCodes(x.items)
		for _, from := range []int{1, 63 - x.count + 1} {
			segs := coded(firstScan(from, from+x.count-1, 0, 0), nil, lens, text)
			if got := checkScanRead(t, x.what, f, c, segs); (got > 0) != x.ok {
				t.Fatal(x.what, from, got)
			}
		}
	}
}

// Each bit away from the end: bits are wanting. Bits and bytes behind are not
// looked at, whatever they are.
func TestScanBitsWantingAndBehind(t *testing.T) {
	d := dice(156)
	f := rowsOf(2, 1, 1)
	c := sparseCoefs(&d, f, 30, 900)
	for _, s := range []impl.Scan{firstScan(0, 63, 0, 0), firstScan(0, 0, 0, 0), firstScan(1, 63, 0, 0), fineScan(0, 63, 1, 0)} {
		tables := ruleTables(ruleWords(slices.Concat(ruleTold(f, c, s)...)))
		ahead := aheadOf(c, s)
		for at, list := range ruleTold(f, c, s) {
			codes := [2][]string{ruleCodes(tables[0]), ruleCodes(tables[1])}
			text := ""
			for _, w := range ruleWords(list) {
				text += codes[w.table][w.symbol] + w.bits
			}
			segs := impl.EncodeScan(f, c, s, 0)
			for size := 1; size < len(segs[2*at+1].Data); size++ {
				other := cloneSegs(segs)
				other[2*at+1].Data = other[2*at+1].Data[:size]
				checkRefused(t, "bytes are wanting", f, ahead, other)
			}
			for range 20 {
				more := text + textOfBytes(bytesThrown(&d, 3))[:d.below(24)]
				other := cloneSegs(segs)
				other[2*at+1].Data = append(bytesOfText(more), bytesThrown(&d, d.below(4))...)
				checkTaken(t, "bits behind", f, ahead, other, 4)
				if x, _, _, _ := impl.DecodeScan(f, ahead, other); !sameCoefs(x, behindOf(c, s)) {
					t.Fatal("bits behind are looked at")
				}
			}
		}
	}
	// A code that fills a byte, and the one that would begin behind it.
	one, e := rowsOf(1, 1, 0), impl.EmptyCoefs(rowsOf(1, 1, 0))
	lens := map[int]int{0: 8, 1: 8}
	checkTaken(t, "eight bits", one, e, coded(firstScan(0, 0, 0, 0), lens, nil, "00000000"), 2)
	checkRefused(t, "the bit behind them", one, e, coded(firstScan(0, 0, 0, 0), lens, nil, "00000001"))
	checkTaken(t, "and that bit", one, e, coded(firstScan(0, 0, 0, 0), lens, nil, "000000011"), 2)
	checkRefused(t, "the code behind them", one, e, coded(firstScan(0, 1, 0, 0), lens, map[int]int{0: 1}, "00000000"))
	checkTaken(t, "and that code", one, e, coded(firstScan(0, 1, 0, 0), lens, map[int]int{0: 1}, "000000000"), 2)
	checkRefused(t, "half a code", one, e, coded(firstScan(0, 0, 0, 0), map[int]int{0: 9}, nil, "00000000"))
}

// With the bit coder bytes beyond the end are 0, so that a shorter row is read
// as well, and bytes behind make no difference.
func TestScanBytesOfBins(t *testing.T) {
	d := dice(157)
	f := rowsOf(2, 1, 1)
	for range 20 {
		c, s := drawnCoefs(&d, f), drawnPass(&d, f)
		segs, ahead := impl.EncodeScan(f, c, s, 1), aheadOf(c, s)
		for _, behind := range behindToTry() {
			other := cloneSegs(segs)
			other[3].Data = append(other[3].Data, behind...)
			checkTaken(t, "bytes behind", f, ahead, other, 4)
			if x, _, _, _ := impl.DecodeScan(f, ahead, other); !sameCoefs(x, behindOf(c, s)) {
				t.Fatal("bytes behind are looked at")
			}
		}
		for size := 1; size < len(segs[1].Data); size++ {
			other := cloneSegs(segs)
			other[1].Data = other[1].Data[:size]
			checkScanRead(t, "bytes are wanting", f, ahead, other)
		}
		noughts := cloneSegs(segs)
		noughts[1].Data = bytes.TrimRight(noughts[1].Data, "\x00")
		if len(noughts[1].Data) > 0 {
			checkTaken(t, "noughts at the end are wanting", f, ahead, noughts, 4)
		}
	}
}

// binned are segments in mode 1 of one stretch.
func binned(s impl.Scan, lists ...[]impl.Bin) []impl.Seg {
	return laidSegs(scanPart(s, 1), impl.EncodeBins(slices.Concat(lists...)))
}

// waveBins are the bins of numbers from place k of ZigZag on.
func waveBins(k int, nums ...int) []impl.Bin {
	var bins []impl.Bin
	for i, n := range nums {
		bins = append(bins, ruleNumBins(n, 40+20*ruleClass(k+i))...)
	}
	return bins
}

func TestScanCountsOfBins(t *testing.T) {
	f := rowsOf(1, 1, 0)
	c := impl.EmptyCoefs(f)
	zero := ruleNumBins(0, 0)
	for _, span := range spansToTry() {
		for _, s := range []impl.Scan{firstScan(span[0], span[1], 0, 0), fineScan(span[0], span[1], 0, 0)} {
			from, head := s.From, []impl.Bin{}
			if hasDiff(s) {
				from, head = from+1, zero
			}
			count := s.To - from + 1
			for _, told := range []int{-1, 0, 1, 2, count - 1, count, count + 1, count + 2, 64, 65, 128, 16384, -count} {
				ones := alike(min(64, max(0, told)), 1)
				segs := binned(s, head, ruleNumBins(told, 20), waveBins(from, ones...))
				if got := checkScanRead(t, "count", f, c, segs); (got > 0) != between(0, count, told) {
					t.Fatal(s, told, got)
				}
				if between(1, count, told) {
					last := with(ones, told-1, 0)
					checkRefused(t, "the last is 0", f, c, binned(s, head, ruleNumBins(told, 20), waveBins(from, last...)))
					if told > 1 {
						checkTaken(t, "the one ahead of it is 0", f, c, binned(s, head, ruleNumBins(told, 20), waveBins(from, with(ones, told-2, 0)...)), 2)
					}
				}
			}
		}
	}
}

// Numbers that a pass does not take, in both modes.
func TestScanNumbersThatAreNone(t *testing.T) {
	f := rowsOf(1, 1, 0)
	for _, k := range []int{1, 5, 63} {
		for low := range impl.MaxLow + 1 {
			best := impl.MaxLevel >> low
			for _, n := range []int{1, -1, 2, -2, best, -best, best + 1, -best - 1, 16384, 32767, -32767} {
				size := ruleClass(n)
				bits := "0" + bitText([]impl.Field{{Len: size, Val: ruleBits(n)}})
				ways := func(s impl.Scan) [][]impl.Seg {
					return [][]impl.Seg{coded(s, nil, map[int]int{size: 1}, bits), binned(s, ruleNumBins(1, 20), waveBins(k, n))}
				}
				for _, segs := range ways(firstScan(k, k, low, 0)) {
					if got := checkScanRead(t, "first", f, impl.EmptyCoefs(f), segs); (got > 0) != between(-best, best, n) {
						t.Fatal("first", k, low, n)
					}
				}
				for _, was := range []int{0, 2 << low, -2 << low, 16384 - 2<<low} {
					if !between(-impl.MaxLevel, impl.MaxLevel, was) {
						continue
					}
					c := impl.EmptyCoefs(f)
					c.Planes[0][0][zigPlaces[k]] = was
					for _, segs := range ways(fineScan(k, k, low, 0)) {
						if got := checkScanRead(t, "refining", f, c, segs); (got > 0) != (n == 1 || n == -1 && was == 0) {
							t.Fatal("refining", k, low, n, was)
						}
					}
				}
			}
		}
	}
}

// What is known of the scan's numbers ahead of it, number by number.
func TestScansOverWhatIsKnown(t *testing.T) {
	d := dice(158)
	f := rowsOf(2, 1, 0)
	for mode := range 2 {
		for low := range impl.MaxLow + 1 {
			for _, s := range []impl.Scan{firstScan(3, 6, low, 0), fineScan(3, 6, low, 0), firstScan(0, 2, low, 0), fineScan(0, 2, low, 0)} {
				c := sparseCoefs(&d, f, 100, impl.MaxLevel)
				segs := impl.EncodeScan(f, impl.EmptyCoefs(f), s, mode)
				for _, k := range []int{0, 1, 2, 3, 4, 5, 6, 7, 8, 63} {
					for _, n := range []int{1, -1, 1 << low, -1 << low, 2 << low, -2 << low, 3 << low, 4 << low, impl.MaxLevel} {
						if !between(-impl.MaxLevel, impl.MaxLevel, n) {
							continue
						}
						x := cutScan(c, s, -1)
						x.Planes[0][d.below(2)][zigPlaces[k]] = n
						ok := !between(s.From, s.To, k) || s.High > 0 && n%(2<<low) == 0
						if got := checkScanRead(t, "known", f, x, segs); (got > 0) != ok {
							t.Fatal(s, k, n, got)
						}
					}
				}
			}
		}
	}
}

// Blocks that the scan does not tell of may have anything at its places: other
// components.
func TestScansOfOtherComponents(t *testing.T) {
	d := dice(159)
	f := shared(17, 9, [2]int{2, 2}, [2]int{1, 1}, [2]int{1, 2})
	for mode := range 2 {
		for _, comps := range risingComps(3) {
			s := firstScan(0, 63, 0, comps...)
			c := sparseCoefs(&d, f, 40, 200)
			segs := checkScanned(t, "some", f, c, s, mode)
			x, _, _, n := impl.DecodeScan(f, aheadOf(c, s), segs)
			if n != 2 || !sameCoefs(x, c) {
				t.Fatal(comps, n)
			}
			for comp := range 3 {
				y := aheadOf(c, s)
				y.Planes[comp][0][63] = 5
				if got := checkScanRead(t, "others", f, y, segs); (got > 0) == slices.Contains(comps, comp) {
					t.Fatal(comps, comp, got)
				}
			}
		}
	}
}

// openFrame is a frame of the same blocks that hides none of them.
func openFrame(f impl.Frame) impl.Frame {
	h, v := greatestShares(f)
	wide, high := ruleUnits(f)
	f = cloneFrame(f)
	f.Width, f.Height = 8*h*wide, 8*v*high
	return f
}

// A hidden block stays noughts: what would put another number there is refused.
// It is written for a frame that does not hide it.
func TestScansOfHiddenBlocks(t *testing.T) {
	hidden := 0
	for what, f := range fewBlocks() {
		comps, open := upTo(len(f.Comps)), openFrame(f)
		if len(comps) == 1 {
			continue
		}
		for i, p := range ruleOrder(f, comps) {
			if !isNeeded(f, p) {
				hidden++
			}
			place, n := zigPlaces[[]int{0, 1, 63}[i%3]], 1-i%2*2
			c := coefsWith(open, ruleEmpty(open), p, with(flat(0), place, n))
			for mode := range 2 {
				for _, s := range []impl.Scan{firstScan(0, 63, 0, comps...), fineScan(0, 63, 0, comps...)} {
					segs := impl.EncodeScan(open, c, s, mode)
					checkTaken(t, what, open, ruleEmpty(open), segs, 2)
					if got := checkScanRead(t, what, f, ruleEmpty(f), segs); (got > 0) != isNeeded(f, p) {
						t.Fatalf("%s, %v, %v: %d", what, p, s, got)
					}
				}
			}
		}
	}
	if hidden == 0 {
		t.Fatal("no hidden block was met")
	}
}

// A hidden block is told as noughts, and the difference of the next one is to
// its 0.
func TestScanDiffsOfHiddenBlocks(t *testing.T) {
	// Units of 16 by 8, two of them below one another; the second of the two
	// blocks in each is hidden.
	f := shared(8, 16, [2]int{2, 1}, [2]int{1, 1})
	c := impl.EmptyCoefs(f)
	c.Planes[0][0][0], c.Planes[0][2][0] = 4, 4
	segs := impl.EncodeScan(f, c, firstScan(0, 0, 0, 0, 1), 1)
	var bins []impl.Bin
	for _, diff := range []int{4, -4, 0, 4, -4, 0} {
		bins = append(bins, slices.Concat(ruleNumBins(diff, 0), ruleNumBins(0, 20))...)
	}
	if !sameSegs(segs, binned(firstScan(0, 0, 0, 0, 1), bins)) {
		t.Fatal(segs)
	}
	// By itself the component has no hidden blocks.
	segs = impl.EncodeScan(f, c, firstScan(0, 0, 0, 0), 1)
	bins = slices.Concat(ruleNumBins(4, 0), ruleNumBins(0, 20), ruleNumBins(0, 0), ruleNumBins(0, 20))
	if !sameSegs(segs, binned(firstScan(0, 0, 0, 0), bins)) {
		t.Fatal(segs)
	}
}

// scanRoomOf are arguments in new memory with room behind each list, and a
// check that all of it is as it was.
func scanRoomOf(f impl.Frame, c impl.Coefs, s impl.Scan, segs []impl.Seg) (impl.Frame, impl.Coefs, impl.Scan, []impl.Seg, func(t *testing.T, what string)) {
	comps, list, own, guarded := guard(f.Comps, impl.Comp{Id: 99, H: 1, V: 1}), guard(s.Comps, 1, 2, 99), roomy(c), guardSegs(segs)
	was, at := opened(own)
	f.Comps, s.Comps = comps.list, list.list
	return f, own, s, guarded.list, func(t *testing.T, what string) {
		t.Helper()
		comps.check(t, what)
		list.check(t, what)
		guarded.check(t, what)
		if now, then := opened(own); !sameCoefs(was, now) || !slices.Equal(at, then) {
			t.Fatalf("%s: coefficients, or the room behind them, were written into", what)
		}
	}
}

func checkScanLeft(t *testing.T, what string, f impl.Frame, c, ahead impl.Coefs, s impl.Scan, mode int, segs []impl.Seg) {
	t.Helper()
	g, x, y, _, check := scanRoomOf(f, c, s, nil)
	got := impl.EncodeScan(g, x, y, mode)
	check(t, what)
	if !sameSegs(got, ruleSegs(f, c, s, mode)) {
		t.Fatalf("%s: another answer with other room behind the lists", what)
	}
	g, x, _, list, check := scanRoomOf(f, ahead, s, segs)
	coefs, scan, m, n := impl.DecodeScan(g, x, list)
	check(t, what)
	if a, b, k, l := ruleReadScan(f, ahead, segs); !sameCoefs(coefs, a) || !sameScan(scan, b) || m != k || n != l {
		t.Fatalf("%s: another answer with other room behind the lists", what)
	}
}

func TestScansLeaveArguments(t *testing.T) {
	d := dice(160)
	for what, f := range fewBlocks() {
		for range 6 {
			g := restarted(f, d.below(3))
			c, s, mode := drawnCoefs(&d, g), drawnPass(&d, g), d.below(2)
			segs, ahead := impl.EncodeScan(g, c, s, mode), aheadOf(c, s)
			checkScanLeft(t, what, g, c, ahead, s, mode, segs)
			checkScanLeft(t, what+", known", g, c, c, s, mode, segs)
			checkScanLeft(t, what+", no mode", g, c, ahead, s, 2, segs)
			checkScanLeft(t, what+", turned", g, c, ahead, s, mode, turnedByte(&d, segs))
			checkScanLeft(t, what+", turned", g, c, ahead, s, mode, turnedSegs(&d, segs))
			checkScanLeft(t, what+", more behind", g, c, ahead, s, mode, append(cloneSegs(segs), segPart(9, 9)))
			checkScanLeft(t, what+", one too few", g, c, ahead, s, mode, segs[:len(segs)-1])
		}
	}
}

// ownBytes writes a number of its own over the data of each segment with its
// spare room, and tells whether each kept it: data that share memory do not.
func ownBytes(segs []impl.Seg) bool {
	for i := range segs {
		scribble(segs[i].Data, byte(100+i))
	}
	own := true
	for i := range segs {
		own = own && !slices.ContainsFunc(segs[i].Data, func(b byte) bool { return b != byte(100+i) })
	}
	scribble(segs, segPart(99, 99))
	return own
}

func checkSegsAreNew(t *testing.T, what string, f impl.Frame, c impl.Coefs, s impl.Scan, mode int) {
	t.Helper()
	own, scan, frame := cloneCoefs(c), cloneScript([]impl.Scan{s})[0], cloneFrame(f)
	x, y := impl.EncodeScan(frame, own, scan, mode), impl.EncodeScan(frame, own, scan, mode)
	if !ownBytes(y) {
		t.Fatalf("%s: two segments share memory", what)
	}
	if !sameCoefs(own, c) || !sameScan(scan, s) || !sameFrame(frame, f) {
		t.Fatalf("%s: segments share memory with an argument", what)
	}
	scribbleOver(own)
	scribble(scan.Comps, 9)
	scribble(frame.Comps, impl.Comp{Id: 77})
	if !sameSegs(x, ruleSegs(f, c, s, mode)) {
		t.Fatalf("%s: segments share memory with an argument or another answer", what)
	}
}

func checkReadIsNew(t *testing.T, what string, f impl.Frame, c impl.Coefs, s impl.Scan, mode int) {
	t.Helper()
	segs := ruleSegs(f, c, s, mode)
	own, list, frame := aheadOf(c, s), cloneSegs(segs), cloneFrame(f)
	a, b, _, n := impl.DecodeScan(frame, own, list)
	x, y, _, _ := impl.DecodeScan(frame, own, list)
	scribble(y.Comps, 9)
	if !scribbleOver(x) {
		t.Fatalf("%s: two lists of one answer share memory", what)
	}
	if !sameCoefs(own, aheadOf(c, s)) || !sameSegs(list, segs) || !sameFrame(frame, f) {
		t.Fatalf("%s: what was read shares memory with an argument", what)
	}
	scribbleOver(own)
	ownBytes(list)
	scribble(frame.Comps, impl.Comp{Id: 77})
	if n != len(segs) || !sameCoefs(a, behindOf(c, s)) || !sameScan(b, s) {
		t.Fatalf("%s: what was read shares memory with an argument or another answer", what)
	}
}

func TestScansAreNewMemory(t *testing.T) {
	d := dice(161)
	for what, f := range fewBlocks() {
		for mode := range 2 {
			for _, restart := range []int{0, 1, 2} {
				g := restarted(f, restart)
				c, s := drawnCoefs(&d, g), drawnPass(&d, g)
				checkSegsAreNew(t, what, g, c, s, mode)
				checkReadIsNew(t, what, g, c, s, mode)
			}
		}
	}
}

// scanAsked is a scan, and what was answered.
type scanAsked struct {
	f     impl.Frame
	c     impl.Coefs
	ahead impl.Coefs
	s     impl.Scan
	mode  int
	segs  []impl.Seg
}

// same tells whether both functions answer as before.
func (a scanAsked) same() bool {
	if !sameSegs(impl.EncodeScan(a.f, a.c, a.s, a.mode), a.segs) {
		return false
	}
	x, s, mode, n := impl.DecodeScan(a.f, a.ahead, a.segs)
	if len(a.segs) == 0 {
		return n == 0
	}
	return n == len(a.segs) && mode == a.mode && sameScan(s, a.s) && sameCoefs(x, behindOf(a.c, a.s))
}

// scansAsked are scans with many stretches and with few, some that are refused
// among them: too many stretches, and a stretch that is too long.
func scansAsked(d *dice) []scanAsked {
	var list []scanAsked
	for i := range 24 {
		f := []impl.Frame{rowsOf(15, 10, 1), rowsOf(16, 8, 3), restarted(shared(60, 60, [2]int{2, 2}, [2]int{1, 1}), 1), rowsOf(16, 16, 1)}[i%4]
		a := scanAsked{f: f, c: sparseCoefs(d, f, 10, 60), s: drawnPass(d, f), mode: i / 4 % 2}
		a.segs, a.ahead = ruleSegs(f, a.c, a.s, a.mode), aheadOf(a.c, a.s)
		list = append(list, a)
	}
	return list
}

// The same arguments give the same answers however the goroutines run: on one
// thread and on many, and called from many goroutines at once.
func TestStretchesHoweverGoroutinesRun(t *testing.T) {
	d := dice(162)
	list := scansAsked(&d)
	was := runtime.GOMAXPROCS(0)
	defer runtime.GOMAXPROCS(was)
	for _, threads := range []int{1, 2, was, 4 * was} {
		runtime.GOMAXPROCS(threads)
		for range 3 {
			slices.Reverse(list)
			for _, a := range list {
				if !a.same() {
					t.Fatalf("%d threads: other answers: %v, %v, mode %d", threads, a.f, a.s, a.mode)
				}
			}
		}
	}
	var all sync.WaitGroup
	for range 8 {
		all.Add(1)
		go func() {
			defer all.Done()
			for _, a := range list {
				if !a.same() {
					t.Errorf("at once: other answers: %v, %v, mode %d", a.f, a.s, a.mode)
				}
			}
		}()
	}
	all.Wait()
}

// No goroutine is left behind, also where nothing is answered.
func TestStretchesLeaveNoGoroutine(t *testing.T) {
	d := dice(163)
	was := runtime.NumGoroutine()
	for _, a := range scansAsked(&d) {
		if !a.same() {
			t.Fatalf("%v, %v, mode %d", a.f, a.s, a.mode)
		}
	}
	for range 200 {
		if runtime.NumGoroutine() <= was {
			return
		}
		time.Sleep(10 * time.Millisecond)
	}
	t.Fatal(was, runtime.NumGoroutine())
}
