package tests

import (
	"math"
	"math/big"
	"slices"
	"strconv"
	"strings"
	"testing"

	"loop.example/g00139/impl"
)

// zigPlaces is kept, as every rule below asks for it.
var zigPlaces = ruleZigZag()

// cutBy is n by 2^low, cut, in big whole numbers.
func cutBy(n, low int) int {
	d := new(big.Int).Lsh(big.NewInt(1), uint(low))
	return int(new(big.Int).Quo(big.NewInt(int64(n)), d).Int64())
}

// digitOf is the bit of n without its sign that has the value 2^low, as n is
// written down.
func digitOf(n, low int) int {
	text := strings.TrimPrefix(strconv.FormatInt(int64(n), 2), "-")
	if low >= len(text) {
		return 0
	}
	return int(text[len(text)-1-low] - '0')
}

func ruleRefined(n, high, low int) int {
	if cutBy(n, high) == 0 && n < 0 {
		return -digitOf(n, low)
	}
	return digitOf(n, low)
}

// rulePutFirst multiplies where nothing wraps round.
func rulePutFirst(told, low int) (int, bool) {
	n := new(big.Int).Lsh(big.NewInt(int64(told)), uint(low))
	if n.CmpAbs(big.NewInt(16383)) > 0 {
		return 0, false
	}
	return int(n.Int64()), true
}

func rulePutRefine(n, told, low int) (int, bool) {
	step := int(math.Pow(2, float64(low)))
	switch {
	case n == 0 && told == -1:
		return -step, true
	case told == 0:
		return n, true
	case told != 1:
		return 0, false
	case n < 0:
		return n - step, n-step >= -16383
	}
	return n + step, n+step <= 16383
}

// passPair is the two functions of one kind of pass.
type passPair struct {
	what string
	fine bool
	of   func(block []int, s impl.Scan) []int
	put  func(block []int, s impl.Scan, list []int) []int
}

func bothPasses() []passPair {
	return []passPair{
		{what: "first", of: impl.FirstOf, put: impl.PutFirst},
		{what: "refining", fine: true, of: impl.RefineOf, put: impl.PutRefine},
	}
}

func passFor(s impl.Scan) passPair {
	if s.High == 0 {
		return bothPasses()[0]
	}
	return bothPasses()[1]
}

// scan is one of this kind; with Comps that no frame has, as they are not
// looked at.
func (p passPair) scan(from, to, low int) impl.Scan {
	if p.fine {
		return fineScan(from, to, low, 7, -1)
	}
	return firstScan(from, to, low)
}

func (p passPair) takes(block []int, s impl.Scan) bool {
	return numbersOk(block, -16383, 16383) && fieldsRule(s) && (s.High > 0) == p.fine
}

// ruleOf is what the chapter says of FirstOf or RefineOf.
func (p passPair) ruleOf(block []int, s impl.Scan) []int {
	if !p.takes(block, s) {
		return nil
	}
	var list []int
	for _, place := range zigPlaces[s.From : s.To+1] {
		n := cutBy(block[place], s.Low)
		if p.fine {
			n = ruleRefined(block[place], s.High, s.Low)
		}
		list = append(list, n)
	}
	return list
}

// rulePut is what the chapter says of PutFirst or PutRefine.
func (p passPair) rulePut(block []int, s impl.Scan, list []int) []int {
	if !p.takes(block, s) || len(list) != s.To-s.From+1 {
		return nil
	}
	out := slices.Clone(block)
	for i, told := range list {
		place := zigPlaces[s.From+i]
		n, ok := rulePutFirst(told, s.Low)
		if p.fine {
			n, ok = rulePutRefine(block[place], told, s.Low)
		}
		if !ok {
			return nil
		}
		out[place] = n
	}
	return out
}

// checkOf and checkPut hold a pass against its rule, and answer what it says.
func (p passPair) checkOf(t *testing.T, block []int, s impl.Scan) []int {
	t.Helper()
	want := p.ruleOf(block, s)
	if got := p.of(block, s); !slices.Equal(got, want) {
		t.Fatalf("%s, %v of %v: %v, and not %v", p.what, s, block, got, want)
	}
	return want
}

func (p passPair) checkPut(t *testing.T, block []int, s impl.Scan, list []int) []int {
	t.Helper()
	want := p.rulePut(block, s, list)
	if got := p.put(block, s, list); !slices.Equal(got, want) {
		t.Fatalf("%s, %v, %v put into %v: %v, and not %v", p.what, s, list, block, got, want)
	}
	return want
}

// checkNothing asks that a pass is refused both ways, whatever is told by it.
func (p passPair) checkNothing(t *testing.T, what string, block []int, s impl.Scan, lists ...[]int) {
	t.Helper()
	if got := p.of(block, s); len(got) != 0 {
		t.Fatalf("%s, %s, %v: %v is told", p.what, what, s, got)
	}
	for _, list := range lists {
		if got := p.put(block, s, list); len(got) != 0 {
			t.Fatalf("%s, %s, %v: %d numbers are put", p.what, what, s, len(list))
		}
	}
}

// noughtsFor are lists of noughts, one that is just as long as a scan wants it
// and others.
func noughtsFor(s impl.Scan) [][]int {
	lists := [][]int{nil, {0}, flat(0)}
	if n := s.To - s.From + 1; between(0, 200, n) {
		lists = append(lists, make([]int, n))
	}
	return lists
}

// toldFor are numbers that a pass may tell of each of these waves, drawn.
func (p passPair) toldFor(d *dice, block []int, s impl.Scan) []int {
	most := 16383 >> s.Low
	var list []int
	for _, place := range zigPlaces[s.From : s.To+1] {
		told := -most + d.below(2*most+1)
		if p.fine {
			told = d.below(3) - 1
			if _, ok := rulePutRefine(block[place], told, s.Low); !ok {
				told = 0
			}
		}
		list = append(list, told)
	}
	return list
}

// scatter is 64 numbers within limits, small ones and noughts among them.
func scatter(d *dice) []int {
	block := thrown(d, 64, -impl.MaxLevel, impl.MaxLevel)
	for i := range block {
		block[i] /= 1 << d.below(15)
	}
	return block
}

// edgesOf are the numbers around all that a pass down to bit low asks for, and
// those at the limits.
func edgesOf(low int) []int {
	list := []int{0, 1, -1, 2, -2, 3, -3, impl.MaxLevel, -impl.MaxLevel, impl.MaxLevel - 1, 1 - impl.MaxLevel}
	for _, times := range []int{1, 2, 3, 4, 5, 7} {
		for _, by := range []int{-1, 0, 1} {
			at := times<<low + by
			list = append(list, at, -at, impl.MaxLevel-at, at-impl.MaxLevel)
		}
	}
	list = slices.DeleteFunc(list, func(n int) bool { return !between(-impl.MaxLevel, impl.MaxLevel, n) })
	slices.Sort(list)
	return slices.Compact(list)
}

// strayNumbers are what no pass tells, many of them such that a power of 2
// makes another number of them by wrapping round.
func strayNumbers() []int {
	list := []int{2, -2, 3, -3, 255, 256, 257, math.MaxInt, math.MinInt}
	for e := 13; e < 64; e++ {
		at := int(uint64(1) << e)
		list = append(list, at, -at, at-1, at+1, -at+1, -at-1, at+at/2, 3*at)
	}
	return list
}

func TestPassesByHand(t *testing.T) {
	block := make([]int, 64)
	// Places 0, 1, 2, 3 and 4 of ZigZag.
	block[0], block[1], block[8], block[16], block[9] = -13, 12, 3, -4, -3
	first := impl.Scan{To: 4, Low: 2}
	list := impl.FirstOf(block, first)
	if !slices.Equal(list, []int{-3, 3, 0, -1, 0}) {
		t.Fatal(list)
	}
	now := impl.PutFirst(flat(0), first, list)
	if !slices.Equal(now, with(with(with(flat(0), 0, -12), 1, 12), 16, -4)) {
		t.Fatal(now)
	}
	// The third and the last are first told by this pass, with their signs.
	fine := impl.Scan{To: 4, High: 2, Low: 1}
	list = impl.RefineOf(block, fine)
	if !slices.Equal(list, []int{0, 0, 1, 0, -1}) {
		t.Fatal(list)
	}
	now = impl.PutRefine(now, fine, list)
	if !slices.Equal(now, with(with(with(with(with(flat(0), 0, -12), 1, 12), 8, 2), 16, -4), 9, -2)) {
		t.Fatal(now)
	}
	// Now all are told, so that no bit has a sign.
	last := impl.Scan{To: 4, High: 1}
	list = impl.RefineOf(block, last)
	if !slices.Equal(list, []int{1, 0, 1, 0, 1}) {
		t.Fatal(list)
	}
	if now = impl.PutRefine(now, last, list); !slices.Equal(now, block) {
		t.Fatal(now)
	}
	if got := impl.PutRefine(now, last, []int{0, 0, 0, 0, -1}); len(got) != 0 {
		t.Fatal("a sign of a number that has one", got)
	}
}

// Each number that a block may have, with each Low, 64 at a time; the order
// in which they stand is another one from block to block.
func TestPassesOfEveryNumber(t *testing.T) {
	for _, p := range bothPasses() {
		for low := range impl.MaxLow + 1 {
			for from := -impl.MaxLevel; from <= impl.MaxLevel; from += 64 {
				block := make([]int, 64)
				for i := range block {
					block[i] = min(from+(i*5+from)&63, impl.MaxLevel)
				}
				p.checkOf(t, block, p.scan(0, 63, low))
			}
		}
	}
}

// One number at one place, at each limit that a pass asks for.
func TestPassesOfEdges(t *testing.T) {
	for _, p := range bothPasses() {
		for low := range impl.MaxLow + 1 {
			for _, n := range edgesOf(low) {
				for _, k := range []int{0, 1, 31, 63} {
					got := p.checkOf(t, with(flat(5), zigPlaces[k], n), p.scan(k, k, low))
					if len(got) != 1 {
						t.Fatal(p.what, low, n, got)
					}
				}
			}
		}
	}
}

// A sign comes with the first bit, and with no other one.
func TestSignComesWithTheFirstBit(t *testing.T) {
	for low := range impl.MaxLow + 1 {
		at := 1 << low
		for n, want := range map[int]int{
			at: 1, -at: -1, at + at - 1: 1, -at - at + 1: -1, at - 1: 0, 1 - at: 0, 2 * at: 0, -2 * at: 0,
			3 * at: 1, -3 * at: 1, 4*at - 1: 1, 1 - 4*at: 1, 4 * at: 0, -4 * at: 0, 5 * at: 1, -5 * at: 1,
		} {
			if !between(-impl.MaxLevel, impl.MaxLevel, n) {
				continue
			}
			if got := impl.RefineOf(with(flat(0), 0, n), fineScan(0, 0, low)); !slices.Equal(got, []int{want}) {
				t.Fatalf("bit %d of %d is told as %v, and not as %d", low, n, got, want)
			}
		}
	}
}

func TestPutFirstNumbers(t *testing.T) {
	d := dice(13)
	p := bothPasses()[0]
	for low := range impl.MaxLow + 1 {
		most := impl.MaxLevel >> low
		tries := append(strayNumbers(), -most-2, -most-1, -most, 1-most, -1, 0, 1, most-1, most, most+1, most+2)
		taken := 0
		for _, told := range tries {
			for _, k := range []int{0, 31, 63} {
				// What stood there ahead makes no difference.
				for _, n := range []int{0, impl.MaxLevel, -impl.MaxLevel} {
					if len(p.checkPut(t, with(flat(9), zigPlaces[k], n), p.scan(k, k, low), []int{told})) > 0 {
						taken++
					}
				}
				s := p.scan(0, 63, low)
				block := scatter(&d)
				p.checkPut(t, block, s, with(p.toldFor(&d, block, s), k, told))
			}
		}
		if taken == 0 || taken == 9*len(tries) {
			t.Fatal(low, taken)
		}
		for _, told := range []int{most, -most} {
			if got := impl.PutFirst(flat(0), p.scan(0, 0, low), []int{told}); len(got) != 64 || got[0] != told*(1<<low) {
				t.Fatal("at the limit", low, told, got)
			}
		}
		for _, told := range []int{most + 1, -most - 1} {
			if got := impl.PutFirst(flat(0), p.scan(0, 0, low), []int{told}); len(got) != 0 {
				t.Fatal("one past the limit", low, told, got)
			}
		}
	}
}

func TestPutRefineNumbers(t *testing.T) {
	d := dice(131)
	p := bothPasses()[1]
	for low := range impl.MaxLow + 1 {
		for _, n := range edgesOf(low) {
			for _, told := range []int{-2, -1, 0, 1, 2} {
				for _, k := range []int{0, 31, 63} {
					p.checkPut(t, with(flat(9), zigPlaces[k], n), p.scan(k, k, low), []int{told})
					s := p.scan(0, 63, low)
					block := with(scatter(&d), zigPlaces[k], n)
					p.checkPut(t, block, s, with(p.toldFor(&d, block, s), k, told))
				}
			}
		}
		for _, told := range strayNumbers() {
			for _, n := range []int{0, 1, -1, 1 << low, -1 << low} {
				if len(p.checkPut(t, with(flat(0), 0, n), p.scan(0, 0, low), []int{told})) != 0 {
					t.Fatal(low, told, n)
				}
			}
		}
	}
}

// What a refining pass makes of one number, each case by itself.
func TestPutRefineCases(t *testing.T) {
	for low := range impl.MaxLow + 1 {
		at, last := 1<<low, impl.MaxLevel-1<<low
		type row struct{ n, told, want int }
		rows := []row{
			{0, 0, 0}, {0, 1, at}, {0, -1, -at},
			{1, 0, 1}, {-1, 0, -1}, {1, 1, 1 + at}, {-1, 1, -1 - at},
			{last, 1, impl.MaxLevel}, {-last, 1, -impl.MaxLevel},
			{impl.MaxLevel, 0, impl.MaxLevel}, {-impl.MaxLevel, 0, -impl.MaxLevel},
		}
		for _, r := range rows {
			got := impl.PutRefine(with(flat(3), 8, r.n), fineScan(2, 2, low), []int{r.told})
			if !slices.Equal(got, with(flat(3), 8, r.want)) {
				t.Fatalf("bit %d, %d put into %d: %v", low, r.told, r.n, got)
			}
		}
		for _, r := range []row{
			{n: 1, told: -1}, {n: -1, told: -1}, {n: at, told: -1}, {n: -at, told: -1}, {n: -impl.MaxLevel, told: -1}, {n: impl.MaxLevel, told: -1},
			{n: 0, told: 2}, {n: 0, told: -2}, {n: 1, told: 2}, {n: -1, told: 2}, {n: 1, told: -2}, {n: -1, told: -2},
			{n: last + 1, told: 1}, {n: -last - 1, told: 1}, {n: impl.MaxLevel, told: 1}, {n: -impl.MaxLevel, told: 1},
		} {
			if got := impl.PutRefine(with(flat(3), 8, r.n), fineScan(2, 2, low), []int{r.told}); len(got) != 0 {
				t.Fatalf("bit %d, %d put into %d: %v", low, r.told, r.n, got)
			}
		}
	}
}

// All spans: the waves between are told and put in the order of ZigZag, and
// all others stay.
func TestPassesOfSpans(t *testing.T) {
	d := dice(1313)
	for _, p := range bothPasses() {
		for from := range 64 {
			for to := from; to < 64; to++ {
				s := p.scan(from, to, d.below(14))
				block := scatter(&d)
				if got := p.checkOf(t, block, s); len(got) != to-from+1 {
					t.Fatal(s, got)
				}
				got := p.put(block, s, p.toldFor(&d, block, s))
				if len(got) != 64 {
					t.Fatalf("%s, %v: %v", p.what, s, got)
				}
				for k, place := range zigPlaces {
					if !between(from, to, k) && got[place] != block[place] {
						t.Fatalf("%s, %v: place %d of ZigZag was %d and is %d", p.what, s, k, block[place], got[place])
					}
				}
				p.checkPut(t, block, s, p.toldFor(&d, block, s))
			}
		}
	}
}

// Each place of ZigZag by itself: one number is told, and another one put.
func TestPassesPlaceByPlace(t *testing.T) {
	zig := impl.ZigZag()
	for k, place := range zig {
		block := with(flat(0), place, 6)
		if got := impl.FirstOf(block, firstScan(k, k, 1)); !slices.Equal(got, []int{3}) {
			t.Fatal(k, got)
		}
		if got := impl.RefineOf(block, fineScan(k, k, 2)); !slices.Equal(got, []int{1}) {
			t.Fatal(k, got)
		}
		if got := impl.PutFirst(flat(1), firstScan(k, k, 1), []int{-2}); !slices.Equal(got, with(flat(1), place, -4)) {
			t.Fatal(k, got)
		}
		if got := impl.PutRefine(flat(-1), fineScan(k, k, 1), []int{1}); !slices.Equal(got, with(flat(-1), place, -3)) {
			t.Fatal(k, got)
		}
	}
}

// checkScanFields asks of a scan, whatever its fields, for what the rule says
// of it, and answers whether it is taken.
func (p passPair) checkScanFields(t *testing.T, s impl.Scan) bool {
	t.Helper()
	block := cycled(64, 0, 1, -1, 5, -6)
	for _, list := range noughtsFor(s) {
		p.checkPut(t, block, s, list)
	}
	return len(p.checkOf(t, block, s)) > 0
}

func TestPassesOfWrongPlaces(t *testing.T) {
	for _, p := range bothPasses() {
		taken := 0
		for from := -2; from <= 66; from++ {
			for to := -2; to <= 66; to++ {
				if p.checkScanFields(t, p.scan(from, to, 13*(from&1))) {
					taken++
				}
			}
		}
		if taken != 64*65/2 {
			t.Fatal(p.what, taken)
		}
		for _, n := range far() {
			for _, m := range append(far(), 0, 63, 64) {
				for _, s := range []impl.Scan{p.scan(n, m, 0), p.scan(m, n, 0), p.scan(n, n, 0), p.scan(n, n-1, 0), p.scan(n+1, n, 0)} {
					if p.checkScanFields(t, s) {
						t.Fatal(p.what, s)
					}
				}
			}
		}
	}
}

// A High of the other kind is refused, and so is one of none.
func TestPassesOfWrongBits(t *testing.T) {
	for _, p := range bothPasses() {
		taken := 0
		for low := -3; low <= 18; low++ {
			for high := -3; high <= 20; high++ {
				if p.checkScanFields(t, impl.Scan{From: 1, To: 9, High: high, Low: low}) {
					taken++
				}
			}
		}
		if taken != 14 {
			t.Fatal(p.what, taken)
		}
		for _, n := range far() {
			for _, m := range append(far(), 0, 1, 13, 14) {
				for _, s := range []impl.Scan{{High: m, Low: n}, {High: n, Low: m}, {High: n + 1, Low: n}, {High: n, Low: n}} {
					p.checkNothing(t, "far", flat(1), s, noughtsFor(s)...)
				}
			}
		}
		p.checkNothing(t, "High wraps round", flat(0), impl.Scan{High: math.MinInt, Low: math.MaxInt}, []int{0})
		for bad, s := range badScans(1) {
			if !fieldsRule(s) {
				p.checkNothing(t, bad, flat(0), s, noughtsFor(s)...)
			}
		}
	}
}

// Scans of the other kind are refused, with lists that they themselves take.
func TestPassesOfTheOtherKind(t *testing.T) {
	d := dice(1314)
	both := bothPasses()
	for i, p := range both {
		other := both[1-i]
		for low := range impl.MaxLow + 1 {
			for _, span := range [][2]int{{0, 0}, {0, 63}, {63, 63}, {1, 5}} {
				block, s := scatter(&d), other.scan(span[0], span[1], low)
				p.checkNothing(t, "the other kind", block, s, other.ruleOf(block, s), other.toldFor(&d, block, s), make([]int, span[1]-span[0]+1))
			}
		}
	}
}

func TestPassesOfAnyComps(t *testing.T) {
	d := dice(2)
	lists := append([][]int{nil, {}, {-1}, {0}, {3, 1, 2}, {5, 5}, {4}, {math.MinInt, math.MaxInt}, upTo(1000)}, risingComps(4)...)
	for _, p := range bothPasses() {
		for _, comps := range lists {
			s := p.scan(1, 20, 3)
			s.Comps = comps
			block := scatter(&d)
			list := p.toldFor(&d, block, s)
			if len(p.checkOf(t, block, s)) != 20 || len(p.checkPut(t, block, s, list)) != 64 {
				t.Fatal(p.what, comps)
			}
		}
	}
}

// Blocks of other lengths, and one number past a limit at each place, whether
// the scan is over it or not.
func TestPassesOfWrongBlocks(t *testing.T) {
	for _, p := range bothPasses() {
		for _, s := range []impl.Scan{p.scan(0, 63, 0), p.scan(0, 0, 1), p.scan(63, 63, 13), p.scan(6, 40, 5)} {
			list := make([]int, s.To-s.From+1)
			for _, n := range []int{0, 1, 8, 62, 63, 65, 66, 128, 4096} {
				p.checkNothing(t, "length", make([]int, n), s, list, nil)
			}
			p.checkNothing(t, "no block", nil, s, list, nil)
			for place := range 64 {
				for _, n := range []int{impl.MaxLevel, -impl.MaxLevel} {
					block := with(flat(0), place, n)
					if len(p.checkOf(t, block, s)) == 0 || len(p.checkPut(t, block, s, list)) == 0 {
						t.Fatal(p.what, s, place, n)
					}
				}
				for _, n := range append(far(), impl.MaxLevel+1, -impl.MaxLevel-1, impl.MaxCoef, -impl.MaxCoef) {
					if !between(-impl.MaxLevel, impl.MaxLevel, n) {
						p.checkNothing(t, "number", with(flat(0), place, n), s, list)
					}
				}
			}
		}
	}
}

func TestPassesOfWrongLists(t *testing.T) {
	d := dice(21)
	for _, p := range bothPasses() {
		for _, span := range [][2]int{{0, 0}, {63, 63}, {0, 1}, {0, 63}, {0, 62}, {1, 63}, {20, 29}} {
			s := p.scan(span[0], span[1], d.below(14))
			n := span[1] - span[0] + 1
			for count := range 70 {
				list := make([]int, count)
				if got := p.checkPut(t, scatter(&d), s, list); (len(got) == 64) != (count == n) {
					t.Fatal(p.what, s, count)
				}
			}
			if got := p.put(flat(0), s, nil); len(got) != 0 {
				t.Fatal(p.what, s, "no list", got)
			}
			// The numbers that are wanting stand behind the list's length.
			if got := p.put(flat(0), s, make([]int, 80)[:n-1]); len(got) != 0 {
				t.Fatal(p.what, s, "too short", got)
			}
			for at := range n {
				wrong := with(make([]int, n), at, 1<<14)
				if got := p.put(flat(1), s, wrong); len(got) != 0 {
					t.Fatal(p.what, s, at, got)
				}
			}
		}
	}
}

// toBit is what is known of a number by its bits down to this one; nothing of
// one of which no bit is told (-1).
func toBit(n, bit int) int {
	if bit < 0 {
		return 0
	}
	return cutBy(n, bit) * (1 << bit)
}

// toBits is a block as it is known by the bits that are told of its waves.
func toBits(block, left []int) []int {
	out := make([]int, 64)
	for k, place := range zigPlaces {
		out[place] = toBit(block[place], left[k])
	}
	return out
}

// checkMade goes through a script with the block of one component, and asks
// for promise 13 behind each scan.
func checkMade(t *testing.T, f impl.Frame, comp int, script []impl.Scan, blocks ...[]int) {
	t.Helper()
	now := make([][]int, len(blocks))
	for i := range now {
		now[i] = flat(0)
	}
	for at, s := range script {
		if !slices.Contains(s.Comps, comp) {
			continue
		}
		p, left := passFor(s), ruleLeft(f, script[:at+1])[comp]
		for i, block := range blocks {
			now[i] = p.put(now[i], s, p.of(block, s))
			if want := toBits(block, left); !slices.Equal(now[i], want) {
				t.Fatalf("behind %v of %v: %v became %v, and not %v", s, script, block, now[i], want)
			}
		}
	}
	if !sameBlocks(now, blocks) {
		t.Fatalf("%v: a block is not made again", script)
	}
}

// downFrom is a script of one component: a first pass, and a refining one for
// each bit below it.
func downFrom(low int) []impl.Scan {
	script := []impl.Scan{firstScan(0, 63, low, 0)}
	for low > 0 {
		low--
		script = append(script, fineScan(0, 63, low, 0))
	}
	return script
}

// madeBlocks are blocks at the limits, small and great ones.
func madeBlocks(d *dice) [][]int {
	blocks := [][]int{
		flat(0), flat(1), flat(-1), flat(2), flat(-2), flat(3), flat(-3), flat(impl.MaxLevel), flat(-impl.MaxLevel),
		cycled(64, -impl.MaxLevel, 0, impl.MaxLevel), cycled(64, 1, -1, 0, 4, -4, 5, -5, 7, -7, 8, -8),
		with(flat(0), 63, -1), with(flat(0), 0, -2),
	}
	for range 20 {
		blocks = append(blocks, scatter(d), thrown(d, 64, -9, 9), thrown(d, 64, -impl.MaxLevel, impl.MaxLevel))
	}
	return blocks
}

// Promise 13, of the three scripts of a frame of one component.
func TestPassesMakeABlockAgain(t *testing.T) {
	d := dice(133)
	f := plainFrame(1)
	for kind := range 3 {
		script := impl.ScriptFor(f, kind)
		if !impl.ScriptOk(f, script) || len(script) != []int{1, 1, 6}[kind] {
			t.Fatal(kind, script)
		}
		checkMade(t, f, 0, script, madeBlocks(&d)...)
	}
}

// Promise 13, of each number that a block may have, first told with each Low.
func TestPassesMakeEveryNumberAgain(t *testing.T) {
	f := plainFrame(1)
	var blocks [][]int
	for from := -impl.MaxLevel; from <= impl.MaxLevel; from += 64 {
		block := make([]int, 64)
		for i := range block {
			block[i] = min(from+i, impl.MaxLevel)
		}
		blocks = append(blocks, block)
	}
	for low := range impl.MaxLow + 1 {
		checkMade(t, f, 0, downFrom(low), blocks...)
	}
	checkMade(t, f, 0, impl.ScriptFor(f, 2), blocks...)
}

// Promise 13, of frames of several components, and of scripts that are drawn.
func TestPassesOfDrawnScripts(t *testing.T) {
	d := dice(134)
	for n := 1; n <= impl.MaxComps; n++ {
		f := plainFrame(n)
		for comp := range n {
			for kind := range 3 {
				checkMade(t, f, comp, impl.ScriptFor(f, kind), madeBlocks(&d)...)
			}
		}
		for range 40 {
			script := wholeScript(&d, f)
			for comp := range n {
				checkMade(t, f, comp, script, scatter(&d), thrown(&d, 64, -9, 9))
			}
		}
	}
}

// checkPassLeft calls both functions with room behind each list, and asks that
// all stays as it was, and that they answer as without it.
func (p passPair) checkPassLeft(t *testing.T, what string, block []int, s impl.Scan, list []int) {
	t.Helper()
	b, l, comps := guard(block, 1, -impl.MaxLevel-1), guard(list, 1, 1<<20), guard(s.Comps, 3, 99)
	own := s
	own.Comps = comps.list
	of, put := p.of(b.list, own), p.put(b.list, own, l.list)
	if !slices.Equal(of, p.ruleOf(block, s)) || !slices.Equal(put, p.rulePut(block, s, list)) {
		t.Fatalf("%s, %s: another answer with other room behind the lists", p.what, what)
	}
	scribble(of, 77)
	scribble(put, 78)
	b.check(t, what)
	l.check(t, what)
	comps.check(t, what)
}

func TestPassesLeaveArguments(t *testing.T) {
	d := dice(136)
	for _, p := range bothPasses() {
		for _, span := range [][2]int{{0, 0}, {0, 63}, {63, 63}, {1, 5}, {6, 63}, {0, 62}} {
			for low := range impl.MaxLow + 1 {
				s, block := p.scan(span[0], span[1], low), scatter(&d)
				list := p.toldFor(&d, block, s)
				p.checkPassLeft(t, "taken", block, s, list)
				p.checkPassLeft(t, "one too short", block, s, list[1:])
				p.checkPassLeft(t, "one too long", block, s, append(slices.Clone(list), 0))
				p.checkPassLeft(t, "a wrong last number", block, s, with(list, len(list)-1, 1<<14))
				p.checkPassLeft(t, "a block of 63", block[:63], s, list)
				p.checkPassLeft(t, "a block of 65", append(slices.Clone(block), 0), s, list)
				p.checkPassLeft(t, "a number past the limit", with(block, 63, 1<<14), s, list)
				s.To = 64
				p.checkPassLeft(t, "To 64", block, s, append(slices.Clone(list), 0))
			}
		}
	}
}

func TestPassesAreNewMemory(t *testing.T) {
	d := dice(137)
	for _, p := range bothPasses() {
		for _, span := range [][2]int{{0, 0}, {0, 63}, {9, 12}} {
			for low := range impl.MaxLow + 1 {
				s, block := p.scan(span[0], span[1], low), scatter(&d)
				list := p.toldFor(&d, block, s)
				wantOf, wantPut := p.ruleOf(block, s), p.rulePut(block, s, list)
				of, put := p.of(block, s), p.put(block, s, list)
				scribble(p.of(block, s), 7)
				scribble(p.put(block, s, list), 8)
				scribble(block, 9)
				scribble(list, 10)
				if !slices.Equal(of, wantOf) || !slices.Equal(put, wantPut) {
					t.Fatalf("%s, %v: an answer shares memory with an argument or with another one", p.what, s)
				}
			}
		}
	}
}

// A list may be a piece of the block that it is put into.
func TestPassesOfSharedLists(t *testing.T) {
	for _, p := range bothPasses() {
		block := cycled(64, 0, 1, 0, 0, 1)
		for _, span := range [][2]int{{0, 63}, {0, 9}, {30, 33}} {
			for low := range impl.MaxLow + 1 {
				s := p.scan(span[0], span[1], low)
				if len(p.checkPut(t, block, s, block[span[0]:span[1]+1])) != 64 {
					t.Fatal(p.what, s)
				}
			}
		}
		if !slices.Equal(block, cycled(64, 0, 1, 0, 0, 1)) {
			t.Fatal(p.what, block)
		}
	}
}

// The same arguments give the same answers, whatever was asked for between.
func TestPassesAgain(t *testing.T) {
	d := dice(138)
	type asked struct {
		pair        passPair
		s           impl.Scan
		block, list []int
		of, put     []int
	}
	var all []asked
	for i := range 200 {
		a := asked{pair: bothPasses()[i%2], block: scatter(&d)}
		from, to := drawnSpan(&d)
		a.s = a.pair.scan(from, to, d.below(14))
		a.list = a.pair.toldFor(&d, a.block, a.s)
		if i%5 == 0 {
			a.list[len(a.list)-1] = 1 << 14
		}
		a.of, a.put = a.pair.of(a.block, a.s), a.pair.put(a.block, a.s, a.list)
		all = append(all, a)
	}
	for range 3 {
		slices.Reverse(all)
		for _, a := range all {
			if !slices.Equal(a.pair.of(a.block, a.s), a.of) || !slices.Equal(a.pair.put(a.block, a.s, a.list), a.put) {
				t.Fatalf("%s, %v: other answers", a.pair.what, a.s)
			}
		}
	}
}
