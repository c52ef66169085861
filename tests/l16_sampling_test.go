package tests

import (
	"math"
	"slices"
	"strconv"
	"sync"
	"testing"

	"loop.example/g00139/impl"
)

// sides are the width and the height of a plane.
type sides struct{ w, h int }

func (s sides) turned() sides { return sides{s.h, s.w} }

// sidesRule tells whether a plane may have these sides, without multiplying
// numbers that may be too great for it.
func sidesRule(s sides) bool {
	return between(1, 1024, s.w, s.h) && s.h <= 131072/s.w
}

// planeRule is PlaneOk by the rule alone.
func planeRule(list []int, s sides) bool {
	if !sidesRule(s) || len(list) != s.w*s.h {
		return false
	}
	return between(0, 4095, list...)
}

// sampleAt is that of a plane at a row and a column.
func sampleAt(list []int, s sides, row, col int) int { return list[row*s.w+col] }

// ruleFrom are the first and the last row of those that come together in row
// y, or columns likewise: of h there come nh.
func ruleFrom(y, h, nh int) (int, int) { return y * h / nh, leastTimes((y+1)*h, nh) - 1 }

// ruleSampled are the samples that one of Shrink comes from.
func ruleSampled(list []int, from, to sides, y, x int) []int {
	var all []int
	top, bottom := ruleFrom(y, from.h, to.h)
	left, right := ruleFrom(x, from.w, to.w)
	for row := top; row <= bottom; row++ {
		for col := left; col <= right; col++ {
			all = append(all, sampleAt(list, from, row, col))
		}
	}
	return all
}

func ruleMean(nums []int) int {
	sum := 0
	for _, n := range nums {
		sum += n
	}
	return ruleRounded(sum, len(nums))
}

// remaker is one of the four functions that give a plane other sides: how it
// is asked, what it answers at a row and a column, and whether it makes planes
// smaller.
type remaker struct {
	ask     func(list []int, w, h, nw, nh int) []int
	at      func(list []int, from, to sides, y, x int) int
	smaller bool
}

func remakers() map[string]remaker {
	return map[string]remaker{
		"Shrink": {impl.Shrink, func(list []int, from, to sides, y, x int) int {
			return ruleMean(ruleSampled(list, from, to, y, x))
		}, true},
		"Grow": {impl.Grow, func(list []int, from, to sides, y, x int) int {
			return sampleAt(list, from, y*from.h/to.h, x*from.w/to.w)
		}, false},
		"Pad": {impl.Pad, func(list []int, from, to sides, y, x int) int {
			return sampleAt(list, from, min(y, from.h-1), min(x, from.w-1))
		}, false},
		"Crop": {impl.Crop, func(list []int, from, to sides, y, x int) int {
			return sampleAt(list, from, y, x)
		}, true},
	}
}

// takes tells whether the function makes such sides of such.
func (r remaker) takes(from, to sides) bool {
	if r.smaller {
		return to.w <= from.w && to.h <= from.h
	}
	return to.w >= from.w && to.h >= from.h
}

// rule is what the function answers, by the rule alone.
func (r remaker) rule(list []int, from, to sides) []int {
	if !planeRule(list, from) || !sidesRule(to) || !r.takes(from, to) {
		return nil
	}
	out := make([]int, 0, to.w*to.h)
	for y := range to.h {
		for x := range to.w {
			out = append(out, r.at(list, from, to, y, x))
		}
	}
	return out
}

func (r remaker) of(list []int, from, to sides) []int {
	return r.ask(list, from.w, from.h, to.w, to.h)
}

// check asks for what the rule says, whatever the arguments are.
func (r remaker) check(t *testing.T, what string, list []int, from, to sides) []int {
	t.Helper()
	got, want := r.of(list, from, to), r.rule(list, from, to)
	if !slices.Equal(got, want) {
		if len(list) < 100 && len(want) < 100 {
			t.Fatalf("%s of %v, from %v to %v: %v, and not %v", what, list, from, to, got, want)
		}
		t.Fatalf("%s of %d samples, from %v to %v: %d samples, which are others than the %d by the rule", what, len(list), from, to, len(got), len(want))
	}
	return got
}

// checkNone asks that nothing is answered.
func (r remaker) checkNone(t *testing.T, what string, list []int, from, to sides) {
	t.Helper()
	if got := r.of(list, from, to); len(got) != 0 {
		t.Fatalf("%s of %d samples, from %v to %v: %d samples", what, len(list), from, to, len(got))
	}
}

// checkCount asks that so many samples are answered, and that the rule has no
// others.
func (r remaker) checkCount(t *testing.T, what string, list []int, from, to sides, n int) {
	t.Helper()
	if got := r.check(t, what, list, from, to); len(got) != n {
		t.Fatalf("%s of %d samples, from %v to %v: %d samples", what, len(list), from, to, len(got))
	}
}

// thrownPlane has samples of all kinds: any, few that differ, the limits.
func thrownPlane(d *dice, s sides) []int {
	switch n := s.w * s.h; d.below(4) {
	case 0:
		return thrown(d, n, 0, 2)
	case 1:
		list := thrown(d, n, 0, 1)
		for i := range list {
			list[i] *= 4095
		}
		return list
	default:
		return thrown(d, n, 0, 4095)
	}
}

// risingPlane has no two neighbours alike, beside or below one another.
func risingPlane(s sides) []int {
	list := make([]int, s.w*s.h)
	for i := range list {
		list[i] = (i/s.w*61 + i%s.w*7) % 4096
	}
	return list
}

// ruleCutBlocks is CutBlocks of sides that can be divided by 8.
func ruleCutBlocks(list []int, s sides) [][]int {
	var blocks [][]int
	for top := 0; top < s.h; top += 8 {
		for left := 0; left < s.w; left += 8 {
			block := make([]int, 64)
			for k := range block {
				block[k] = sampleAt(list, s, top+k/8, left+k%8)
			}
			blocks = append(blocks, block)
		}
	}
	return blocks
}

func dividesBy8(s sides) bool { return s.w%8 == 0 && s.h%8 == 0 }

// ruleJoin is JoinBlocks by the rule alone, sample by sample.
func ruleJoin(blocks [][]int, s sides) []int {
	if !sidesRule(s) || !dividesBy8(s) || len(blocks) != s.w*s.h/64 {
		return nil
	}
	for _, block := range blocks {
		if !numbersOk(block, 0, 4095) {
			return nil
		}
	}
	list := make([]int, s.w*s.h)
	for i := range list {
		row, col := i/s.w, i%s.w
		list[i] = blocks[row/8*(s.w/8)+col/8][row%8*8+col%8]
	}
	return list
}

// checkCut asks for what the rule says of blocks, and that they become the
// plane again.
func checkCut(t *testing.T, list []int, s sides) {
	t.Helper()
	got := impl.CutBlocks(list, s.w, s.h)
	if !planeRule(list, s) || !dividesBy8(s) {
		if len(got) != 0 {
			t.Fatalf("%d samples, %v: %d blocks", len(list), s, len(got))
		}
		return
	}
	if !sameBlocks(got, ruleCutBlocks(list, s)) {
		t.Fatalf("%v: the blocks are others than those by the rule", s)
	}
	if back := impl.JoinBlocks(got, s.w, s.h); !slices.Equal(back, list) {
		t.Fatalf("%v: the blocks do not become the plane again", s)
	}
}

// checkNoJoin asks that blocks are not joined.
func checkNoJoin(t *testing.T, what string, blocks [][]int, s sides) {
	t.Helper()
	if got := impl.JoinBlocks(blocks, s.w, s.h); len(got) != 0 {
		t.Fatalf("%s: %d blocks, %v: %d samples", what, len(blocks), s, len(got))
	}
}

func cloneBlocks(blocks [][]int) [][]int {
	var out [][]int
	for _, block := range blocks {
		out = append(out, slices.Clone(block))
	}
	return out
}

// leastPast are the sides with the least product beyond what a plane may have.
func leastPast() sides {
	best := sides{1024, 1024}
	for w := 1; w <= 1024; w++ {
		if h := 131072/w + 1; h <= 1024 && w*h < best.w*best.h {
			best = sides{w, h}
		}
	}
	return best
}

// greatSides are the greatest that a plane may have, in one way or another.
func greatSides() []sides {
	return []sides{{1024, 1}, {1, 1024}, {1024, 128}, {128, 1024}, {512, 256}, {256, 512}, {1024, 127}, {1023, 128}, {362, 362}, {129, 1016}, {1016, 129}}
}

// pastSides are no plane's, though a list might have as many numbers.
func pastSides() []sides {
	past := leastPast()
	return []sides{
		{1025, 1}, {1, 1025}, {1025, 128}, {1025, 127}, {127, 1025}, {1024, 129}, {129, 1024}, {513, 256}, {512, 257}, {363, 363}, {1032, 8}, {8, 1032},
		{1024, 136}, {136, 1024}, {131072, 1}, {1, 131072}, {65536, 2}, {2, 65536}, past, past.turned(),
	}
}

// noSides are below 1, or have a product that does not fit in an int.
func noSides() []sides {
	all := []sides{{0, 0}, {0, 1}, {1, 0}, {0, 8}, {8, 0}, {-1, -1}, {-1, 1}, {1, -1}, {-8, -8}, {-8, 8}, {8, -8}, {-2, -3}}
	all = append(all, sides{1 << 32, 1 << 32}, sides{1 << 62, 4}, sides{1 << 60, 16}, sides{math.MinInt, 2}, sides{1<<32 + 1, 1 << 32}, sides{math.MinInt, math.MinInt})
	all = append(all, sides{math.MaxInt, math.MaxInt}, sides{math.MaxInt, 1}, sides{1, math.MinInt}, sides{1 << 61, 8}, sides{1 << 58, 1 << 58})
	// Each with one that makes 1 of it, or 64, in the lowest 64 bits.
	for _, n := range []int{3, 5, 255, 1023, 1025, 1<<31 + 1, -3} {
		all = append(all, sides{n, oddInverse(n)}, sides{8 * n, 8 * oddInverse(n)}, sides{n, 64 * oddInverse(n)})
	}
	return all
}

// countOf is how many numbers a list may have that looks as great as the
// sides tell, wrapped round; not too many.
func countOf(s sides) int {
	if n := s.w * s.h; n >= 0 && n <= 1<<20 {
		return n
	}
	return 0
}

func TestToneLimit(t *testing.T) {
	if impl.MaxTone != 4095 || 4*impl.MaxSide != 1024 || 8*impl.MaxArea != 131072 {
		t.Error(impl.MaxTone, impl.MaxSide, impl.MaxArea)
	}
}

func TestPlaneOk(t *testing.T) {
	d := dice(161)
	for _, s := range append(greatSides(), sides{1, 1}, sides{2, 3}, sides{8, 8}, sides{7, 1}) {
		n := s.w * s.h
		for what, x := range map[string]struct {
			list []int
			ok   bool
		}{
			"drawn":           {thrown(&d, n, 0, 4095), true},
			"noughts":         {make([]int, n), true},
			"the greatest":    {cycled(n, 4095), true},
			"one too short":   {make([]int, n-1), false},
			"one too long":    {make([]int, n+1), false},
			"twice as long":   {make([]int, 2*n), false},
			"none":            {nil, false},
			"first below":     {with(make([]int, n), 0, -1), false},
			"first beyond":    {with(make([]int, n), 0, 4096), false},
			"last below":      {with(make([]int, n), n-1, -1), false},
			"last beyond":     {with(make([]int, n), n-1, 4096), false},
			"last at the top": {with(make([]int, n), n-1, 4095), true},
		} {
			if ok := impl.PlaneOk(x.list, s.w, s.h); ok != x.ok || ok != planeRule(x.list, s) {
				t.Errorf("%s, %v: %v", what, s, ok)
			}
		}
	}
}

func TestPlaneOkNumbers(t *testing.T) {
	for _, s := range []sides{{1, 1}, {3, 2}, {2, 5}, {8, 8}} {
		for at := range s.w * s.h {
			for _, n := range append(far(), -1, 0, 1, 4094, 4095, 4096, 4097, 65535, 65536, 65537, 65536+4095, -65536, -4095) {
				list := with(cycled(s.w*s.h, 9), at, n)
				if ok := impl.PlaneOk(list, s.w, s.h); ok != (n >= 0 && n <= 4095) {
					t.Errorf("%d at place %d, %v: %v", n, at, s, ok)
				}
			}
		}
	}
}

func TestPlaneOkSides(t *testing.T) {
	for _, s := range pastSides() {
		if impl.PlaneOk(make([]int, s.w*s.h), s.w, s.h) {
			t.Errorf("%v is a plane", s)
		}
	}
	for _, s := range noSides() {
		for _, n := range []int{0, 1, countOf(s)} {
			if impl.PlaneOk(make([]int, n), s.w, s.h) || impl.PlaneOk(make([]int, n), s.h, s.w) {
				t.Errorf("%v is a plane of %d samples", s, n)
			}
		}
	}
	if past := leastPast(); past.w*past.h != 131075 {
		t.Errorf("%v: the test's own sides", past)
	}
	// A width that is too great by itself, with a list that would do.
	list := make([]int, 24)
	for w := -30; w <= 30; w++ {
		for h := -30; h <= 30; h++ {
			if ok := impl.PlaneOk(list, w, h); ok != (w > 0 && h > 0 && w*h == 24) {
				t.Errorf("24 samples, %d by %d: %v", w, h, ok)
			}
		}
	}
}

func TestRemadeByHand(t *testing.T) {
	all := remakers()
	six, five := []int{1, 2, 3, 4, 5, 6}, []int{10, 20, 30, 40, 50}
	for _, x := range []struct {
		what     string
		list     []int
		from, to sides
		want     []int
	}{
		{"Shrink", six, sides{3, 2}, sides{1, 1}, []int{4}},
		{"Shrink", six, sides{3, 2}, sides{2, 1}, []int{3, 4}},
		{"Shrink", six, sides{3, 2}, sides{3, 1}, []int{3, 4, 5}},
		{"Shrink", six, sides{3, 2}, sides{2, 2}, []int{2, 3, 5, 6}},
		{"Shrink", six, sides{2, 3}, sides{2, 2}, []int{2, 3, 4, 5}},
		{"Shrink", six, sides{3, 2}, sides{3, 2}, six},
		{"Shrink", five, sides{5, 1}, sides{4, 1}, []int{15, 25, 35, 45}},
		{"Shrink", five, sides{5, 1}, sides{3, 1}, []int{15, 30, 45}},
		{"Shrink", five, sides{5, 1}, sides{2, 1}, []int{20, 40}},
		{"Shrink", five, sides{1, 5}, sides{1, 3}, []int{15, 30, 45}},
		{"Shrink", five, sides{1, 5}, sides{1, 2}, []int{20, 40}},
		{"Grow", six, sides{3, 2}, sides{5, 2}, []int{1, 1, 2, 2, 3, 4, 4, 5, 5, 6}},
		{"Grow", six, sides{3, 2}, sides{3, 3}, []int{1, 2, 3, 1, 2, 3, 4, 5, 6}},
		{"Grow", six, sides{2, 3}, sides{2, 4}, []int{1, 2, 1, 2, 3, 4, 5, 6}},
		{"Grow", six, sides{3, 2}, sides{3, 2}, six},
		{"Pad", six, sides{3, 2}, sides{4, 3}, []int{1, 2, 3, 3, 4, 5, 6, 6, 4, 5, 6, 6}},
		{"Pad", six, sides{3, 2}, sides{5, 2}, []int{1, 2, 3, 3, 3, 4, 5, 6, 6, 6}},
		{"Pad", six, sides{3, 2}, sides{3, 4}, []int{1, 2, 3, 4, 5, 6, 4, 5, 6, 4, 5, 6}},
		{"Pad", six, sides{3, 2}, sides{3, 2}, six},
		{"Crop", six, sides{3, 2}, sides{2, 2}, []int{1, 2, 4, 5}},
		{"Crop", six, sides{3, 2}, sides{3, 1}, []int{1, 2, 3}},
		{"Crop", six, sides{3, 2}, sides{1, 2}, []int{1, 4}},
		{"Crop", six, sides{3, 2}, sides{1, 1}, []int{1}},
		{"Crop", six, sides{3, 2}, sides{3, 2}, six},
	} {
		if got := all[x.what].of(x.list, x.from, x.to); !slices.Equal(got, x.want) {
			t.Errorf("%s of %v, from %v to %v: %v, and not %v", x.what, x.list, x.from, x.to, got, x.want)
		}
		if rule := all[x.what].rule(x.list, x.from, x.to); !slices.Equal(rule, x.want) {
			t.Errorf("%s of %v, from %v to %v: the rule gives %v", x.what, x.list, x.from, x.to, rule)
		}
	}
}

// All sides from 0 to 9, to all such, those that divide one another and such
// that do not; the wrong way too.
func TestRemadeByRule(t *testing.T) {
	d := dice(162)
	for what, r := range remakers() {
		for i := range 10 * 10 * 10 * 10 {
			from, to := sides{i % 10, i / 10 % 10}, sides{i / 100 % 10, i / 1000}
			r.check(t, what, thrownPlane(&d, from), from, to)
			r.check(t, what, risingPlane(from), from, to)
		}
	}
}

// Longer sides, in width alone, in height alone, in both and in neither.
func TestRemadeLonger(t *testing.T) {
	d := dice(163)
	for what, r := range remakers() {
		for range 150 {
			to := sides{1 + d.below(40), 1 + d.below(40)}
			from := sides{to.w + d.below(60), to.h + d.below(60)}
			if !r.smaller {
				from, to = to, from
			}
			for _, other := range []sides{to, {to.w, from.h}, {from.w, to.h}, from} {
				r.checkCount(t, what, thrownPlane(&d, from), from, other, other.w*other.h)
			}
		}
	}
}

// Each count of columns, and of rows, from each one that is not less, as far
// as 40: neighbours share a row or a column wherever the sides do not divide
// one another.
func TestShrinkSharesEdges(t *testing.T) {
	shares := 0
	for n := 1; n <= 40; n++ {
		for m := 1; m <= n; m++ {
			for i := 1; i < m; i++ {
				_, last := ruleFrom(i-1, n, m)
				if first, _ := ruleFrom(i, n, m); first == last {
					shares++
				}
			}
			list := risingPlane(sides{n, 1})
			r := remakers()["Shrink"]
			a, b := r.check(t, "Shrink", list, sides{n, 1}, sides{m, 1}), r.check(t, "Shrink", list, sides{1, n}, sides{1, m})
			if !slices.Equal(a, b) || len(a) != m {
				t.Fatalf("%d to %d: %v in a row, %v in a column", n, m, a, b)
			}
		}
	}
	if shares < 1000 {
		t.Error("the sides say too little", shares)
	}
}

// A sample comes from those that its own square of the plane touches, were the
// plane laid under the smaller one: each of them makes it greater, no other
// does.
func TestShrinkComesFrom(t *testing.T) {
	for _, x := range [][2]sides{{{5, 1}, {3, 1}}, {{1, 5}, {1, 3}}, {{4, 6}, {2, 3}}, {{7, 5}, {4, 3}}, {{9, 4}, {9, 3}}, {{4, 9}, {3, 9}}, {{6, 6}, {6, 6}}, {{8, 7}, {5, 1}}} {
		from, to := x[0], x[1]
		for at := range from.w * from.h {
			row, col := at/from.w, at%from.w
			got := impl.Shrink(with(make([]int, from.w*from.h), at, 4095), from.w, from.h, to.w, to.h)
			for i, n := range got {
				y, x := i/to.w, i%to.w
				down := row*to.h < (y+1)*from.h && (row+1)*to.h > y*from.h
				across := col*to.w < (x+1)*from.w && (col+1)*to.w > x*from.w
				if (n > 0) != (down && across) {
					t.Errorf("from %v to %v: the sample at row %d and column %d, of that at %d and %d: %d", from, to, y, x, row, col, n)
				}
			}
			if len(got) != to.w*to.h {
				t.Fatalf("from %v to %v: %v", from, to, got)
			}
		}
	}
}

// Means of so many samples, some of them one more than the others, just below
// a half, at it, and above it.
func TestShrinkHalves(t *testing.T) {
	for n := 1; n <= 64; n++ {
		for more := range n + 1 {
			for _, low := range []int{0, 7, 4094} {
				list := append(cycled(more, low+1), cycled(n-more, low)...)
				want := low
				if 2*more >= n {
					want++
				}
				for w := 1; w <= n; w++ {
					if n%w != 0 {
						continue
					}
					if got := impl.Shrink(list, w, n/w, 1, 1); !slices.Equal(got, []int{want}) {
						t.Fatalf("%d of %d, %d by %d: %v", more, n, w, n/w, got)
					}
				}
			}
		}
	}
}

// The greatest sum that may come together, and halves there.
func TestShrinkGreatest(t *testing.T) {
	for _, s := range []sides{{1024, 128}, {128, 1024}, {512, 256}, {1024, 1}, {1, 1024}} {
		n := s.w * s.h
		for _, x := range []struct{ lower, want int }{{0, 4095}, {1, 4095}, {n/2 - 1, 4095}, {n / 2, 4095}, {n/2 + 1, 4094}, {n, 4094}} {
			list := append(cycled(n-x.lower, 4095), cycled(x.lower, 4094)...)
			if got := impl.Shrink(list, s.w, s.h, 1, 1); !slices.Equal(got, []int{x.want}) {
				t.Errorf("%v with %d that are lower: %v", s, x.lower, got)
			}
		}
	}
}

// Planes at the limits become others; what comes may be as great, not greater.
func TestRemadeAtLimits(t *testing.T) {
	d := dice(164)
	for what, r := range remakers() {
		for _, great := range greatSides() {
			for _, small := range []sides{{1, 1}, {great.w, 1}, {1, great.h}, great, {leastTimes(great.w, 2), leastTimes(great.h, 3)}, {max(1, great.w-1), max(1, great.h-1)}} {
				from, to := great, small
				if !r.smaller {
					from, to = small, great
				}
				list := thrown(&d, from.w*from.h, 0, 4095)
				r.checkCount(t, what, list, from, to, to.w*to.h)
			}
		}
	}
}

func TestRemadePastLimits(t *testing.T) {
	for what, r := range remakers() {
		// From what is no plane, and to what is none.
		for _, s := range append(pastSides(), noSides()...) {
			list := make([]int, countOf(s))
			for _, to := range []sides{s, {1, 1}, {1, s.h}, {s.w, 1}, {1024, 128}, {8, 8}} {
				r.checkNone(t, what, list, s, to)
			}
			for _, from := range []sides{{1, 1}, {8, 8}, {8, 1}, {1, 8}, {1024, 1}, {128, 128}} {
				r.checkNone(t, what, make([]int, from.w*from.h), from, s)
			}
		}
	}
}

// From one sample to the sides just at a limit and one past it, each by
// itself.
func TestGreaterLimits(t *testing.T) {
	for _, what := range []string{"Grow", "Pad"} {
		r := remakers()[what]
		for _, x := range []struct {
			to sides
			ok bool
		}{
			{sides{1024, 1}, true}, {sides{1025, 1}, false}, {sides{1, 1024}, true}, {sides{1, 1025}, false},
			{sides{1024, 128}, true}, {sides{1024, 129}, false}, {sides{128, 1024}, true}, {sides{129, 1024}, false},
			{leastPast(), false}, {leastPast().turned(), false}, {sides{534, 245}, true}, {sides{0, 1}, false}, {sides{1, 0}, false},
		} {
			want := []int(nil)
			if x.ok {
				want = cycled(x.to.w*x.to.h, 4095)
			}
			if got := r.of([]int{4095}, sides{1, 1}, x.to); !slices.Equal(got, want) {
				t.Errorf("%s to %v: %d samples", what, x.to, len(got))
			}
		}
	}
}

// One less and one more than the plane has, on each side by itself.
func TestRemadeWrongWay(t *testing.T) {
	for what, r := range remakers() {
		for _, from := range []sides{{2, 2}, {5, 3}, {16, 8}, {30, 40}} {
			list := risingPlane(from)
			wrong := 1
			if !r.smaller {
				wrong = -1
			}
			for _, to := range []sides{{from.w + wrong, from.h}, {from.w, from.h + wrong}, {from.w + wrong, from.h + wrong}, {from.w + wrong, from.h - wrong}, {from.w - wrong, from.h + wrong}} {
				r.checkNone(t, what, list, from, to)
			}
			to := sides{from.w - wrong, from.h - wrong}
			r.checkCount(t, what, list, from, to, to.w*to.h)
			for _, n := range far() {
				if n > 0 && n < 1025 {
					continue
				}
				r.checkNone(t, what, list, from, sides{n, from.h})
				r.checkNone(t, what, list, from, sides{from.w, n})
			}
		}
	}
}

// What is no plane by its list alone.
func TestRemadeOfOthers(t *testing.T) {
	s := sides{6, 5}
	good := risingPlane(s)
	bad := map[string][]int{
		"none": nil, "one too short": good[:29], "one too long": append(slices.Clone(good), 1),
		"a number below, last": with(good, 29, -1), "a number beyond, last": with(good, 29, 4096),
		"a number below, first": with(good, 0, -1), "a number beyond, first": with(good, 0, 4096),
		"a number that wraps round": with(good, 17, 65536), "a great one": with(good, 17, math.MaxInt), "a low one": with(good, 17, math.MinInt),
	}
	for what, r := range remakers() {
		r.checkCount(t, what, with(good, 29, 4095), s, s, 30)
		for why, list := range bad {
			r.checkNone(t, what+", "+why, list, s, s)
		}
		// A number that is not asked for is looked at as well.
		if r.smaller {
			r.checkNone(t, what, with(good, 29, 4096), s, sides{1, 1})
		}
	}
}

// Promise 16: a plane comes back from itself with more at its edges.
func TestCropOfPad(t *testing.T) {
	d := dice(165)
	for range 600 {
		s := sides{1 + d.below(40), 1 + d.below(40)}
		list := thrownPlane(&d, s)
		to := sides{s.w + d.below(30), s.h + d.below(30)}
		padded := impl.Pad(list, s.w, s.h, to.w, to.h)
		if got := impl.Crop(padded, to.w, to.h, s.w, s.h); !slices.Equal(got, list) {
			t.Fatalf("%v, with more at the edges %v: %v", s, to, got)
		}
	}
}

// Promise 16: a plane comes back from itself made greater by whole numbers of
// times.
func TestShrinkOfGrow(t *testing.T) {
	d := dice(166)
	for range 300 {
		s := sides{1 + d.below(24), 1 + d.below(24)}
		list := thrownPlane(&d, s)
		for i := range 9 {
			to := sides{s.w * (1 + i%3), s.h * (1 + i/3)}
			great := impl.Grow(list, s.w, s.h, to.w, to.h)
			if got := impl.Shrink(great, to.w, to.h, s.w, s.h); !slices.Equal(got, list) {
				t.Fatalf("%v, made greater %v: %v", s, to, got)
			}
		}
		for _, to := range []sides{{s.w * 7, s.h * 5}, {s.w, s.h * 11}, {s.w * 10, s.h}} {
			great := impl.Grow(list, s.w, s.h, to.w, to.h)
			if got := impl.Shrink(great, to.w, to.h, s.w, s.h); !slices.Equal(got, list) {
				t.Fatalf("%v, made greater %v: %v", s, to, got)
			}
		}
	}
	for _, to := range []sides{{1024, 128}, {512, 256}, {128, 1024}} {
		s := sides{to.w / 4, to.h / 2}
		list := thrown(&d, s.w*s.h, 0, 4095)
		if got := impl.Shrink(impl.Grow(list, s.w, s.h, to.w, to.h), to.w, to.h, s.w, s.h); !slices.Equal(got, list) {
			t.Fatalf("%v, made greater %v", s, to)
		}
	}
}

// No sample lies outside of those that it comes from, and what comes is a
// plane again.
func TestShrinkBetween(t *testing.T) {
	d := dice(167)
	for range 500 {
		s := sides{1 + d.below(30), 1 + d.below(30)}
		to := sides{1 + d.below(s.w), 1 + d.below(s.h)}
		list := thrownPlane(&d, s)
		got := impl.Shrink(list, s.w, s.h, to.w, to.h)
		if !impl.PlaneOk(got, to.w, to.h) {
			t.Fatalf("%v to %v: no plane", s, to)
		}
		for i, n := range got {
			from := ruleSampled(list, s, to, i/to.w, i%to.w)
			if n < slices.Min(from) || n > slices.Max(from) {
				t.Fatalf("%v to %v: %d comes from %v", s, to, n, from)
			}
		}
	}
}

// A flat plane stays flat, whatever is done to it.
func TestFlatPlanes(t *testing.T) {
	for what, r := range remakers() {
		for _, n := range []int{0, 1, 2047, 2048, 4094, 4095} {
			from, to := sides{23, 9}, sides{7, 4}
			if !r.smaller {
				from, to = to, from
			}
			if got := r.of(cycled(from.w*from.h, n), from, to); !slices.Equal(got, cycled(to.w*to.h, n)) {
				t.Errorf("%s of %d: %v", what, n, got)
			}
		}
	}
}

func TestCutByHand(t *testing.T) {
	list := make([]int, 24*16)
	for i := range list {
		list[i] = i
	}
	blocks := impl.CutBlocks(list, 24, 16)
	if len(blocks) != 6 {
		t.Fatal(len(blocks))
	}
	for i, first := range []int{0, 8, 16, 192, 200, 208} {
		b := blocks[i]
		if len(b) != 64 || b[0] != first || b[1] != first+1 || b[7] != first+7 || b[8] != first+24 || b[63] != first+7*24+7 {
			t.Errorf("block %d: %v", i, b)
		}
	}
	if got := impl.JoinBlocks(blocks, 24, 16); !slices.Equal(got, list) {
		t.Error(got)
	}
	// The same blocks, with other sides.
	for _, s := range []sides{{8, 48}, {48, 8}, {16, 24}} {
		got := impl.JoinBlocks(blocks, s.w, s.h)
		if !planeRule(got, s) || !sameBlocks(ruleCutBlocks(got, s), blocks) {
			t.Errorf("%v: %v", s, got)
		}
	}
}

// Promise 16: a plane comes back from its blocks. All sides to 40, those that
// cannot be divided by 8 among them.
func TestCutAndJoin(t *testing.T) {
	d := dice(168)
	for w := 0; w <= 40; w++ {
		for h := 0; h <= 40; h++ {
			s := sides{w, h}
			checkCut(t, thrown(&d, w*h, 0, 4095), s)
			checkCut(t, risingPlane(s), s)
		}
	}
	for range 60 {
		s := sides{8 + 8*d.below(20), 8 + 8*d.below(20)}
		checkCut(t, thrownPlane(&d, s), s)
	}
	for _, s := range append(greatSides(), sides{1024, 8}, sides{8, 1024}, sides{1016, 128}, sides{128, 1016}) {
		checkCut(t, thrown(&d, s.w*s.h, 0, 4095), s)
	}
}

// Blocks come back from the plane that they are joined to.
func TestJoinAndCut(t *testing.T) {
	d := dice(169)
	for range 100 {
		s := sides{8 + 8*d.below(8), 8 + 8*d.below(8)}
		var blocks [][]int
		for range s.w / 8 * (s.h / 8) {
			blocks = append(blocks, thrown(&d, 64, 0, 4095))
		}
		list := impl.JoinBlocks(blocks, s.w, s.h)
		if !impl.PlaneOk(list, s.w, s.h) || !sameBlocks(ruleCutBlocks(list, s), blocks) || !sameBlocks(impl.CutBlocks(list, s.w, s.h), blocks) {
			t.Fatalf("%v: the blocks do not come back", s)
		}
	}
}

// What is no plane, or has sides that cannot be divided by 8, has no blocks.
func TestCutOfOthers(t *testing.T) {
	s := sides{16, 24}
	good := risingPlane(s)
	for why, list := range map[string][]int{
		"none": nil, "one too short": good[1:], "one too long": append(slices.Clone(good), 0), "a block too many": append(slices.Clone(good), flat(0)...),
		"first below": with(good, 0, -1), "first beyond": with(good, 0, 4096), "last below": with(good, len(good)-1, -1), "last beyond": with(good, len(good)-1, 4096),
		"wraps round": with(good, 100, 65536),
	} {
		if got := impl.CutBlocks(list, s.w, s.h); len(got) != 0 {
			t.Errorf("%s: %d blocks", why, len(got))
		}
	}
	if got := impl.CutBlocks(with(good, len(good)-1, 4095), s.w, s.h); len(got) != 6 || got[5][63] != 4095 {
		t.Error("at the limit: ", got)
	}
	// As many samples as whole blocks have, and sides that do not do.
	for _, s := range []sides{{4, 16}, {16, 4}, {32, 2}, {64, 1}, {1, 64}, {12, 16}, {16, 12}, {20, 16}, {7, 8}, {9, 8}, {8, 7}, {8, 9}, {12, 12}} {
		if got := impl.CutBlocks(risingPlane(s), s.w, s.h); len(got) != 0 {
			t.Errorf("%v: %d blocks", s, len(got))
		}
	}
	for _, s := range append(pastSides(), noSides()...) {
		if got := impl.CutBlocks(make([]int, countOf(s)), s.w, s.h); len(got) != 0 {
			t.Errorf("%v: %d blocks", s, len(got))
		}
	}
}

func TestJoinOfOthers(t *testing.T) {
	for _, s := range []sides{{8, 8}, {24, 16}, {8, 40}} {
		good := ruleCutBlocks(risingPlane(s), s)
		last := len(good) - 1
		checkNoJoin(t, "none", nil, s)
		checkNoJoin(t, "one too few", good[:last], s)
		checkNoJoin(t, "one too many", append(slices.Clone(good), flat(1)), s)
		for at := range good {
			for _, n := range []int{0, 1, 63, 65, 128} {
				other := cloneBlocks(good)
				other[at] = cycled(n, 1)
				checkNoJoin(t, "block "+strconv.Itoa(at)+" has "+strconv.Itoa(n)+" numbers", other, s)
			}
			for _, k := range []int{0, 1, 31, 62, 63} {
				for _, n := range append(far(), 4096, 65536, 65537, 65536+4095) {
					if n == 257 {
						continue
					}
					other := cloneBlocks(good)
					other[at][k] = n
					checkNoJoin(t, "block "+strconv.Itoa(at)+" has "+strconv.Itoa(n), other, s)
				}
				other := cloneBlocks(good)
				other[at][k] = 4095
				if got := impl.JoinBlocks(other, s.w, s.h); len(got) != s.w*s.h || !sameBlocks(ruleCutBlocks(got, s), other) {
					t.Fatalf("4095 in block %d: %d samples", at, len(got))
				}
			}
		}
	}
}

// As many blocks as the sides might have, were they such as may be.
func TestJoinSides(t *testing.T) {
	one := [][]int{flat(5)}
	for _, s := range []sides{{4, 16}, {16, 4}, {64, 1}, {1, 64}, {9, 8}, {8, 9}, {15, 8}, {8, 15}, {9, 9}, {-8, -8}, {-8, 8}, {8, -8}, {7, 8}, {8, 7}} {
		checkNoJoin(t, "a block", one, s)
	}
	for _, s := range []sides{{12, 16}, {20, 16}, {16, 12}, {48, 4}} {
		for n := range 8 {
			checkNoJoin(t, "blocks", slices.Repeat(one, n), s)
		}
	}
	for _, s := range append(pastSides(), noSides()...) {
		checkNoJoin(t, "as many", slices.Repeat(one, countOf(s)/64), s)
		checkNoJoin(t, "one", one, s)
		checkNoJoin(t, "none", nil, s)
	}
	for _, s := range []sides{{1024, 128}, {128, 1024}, {1024, 8}, {8, 1024}} {
		if got := impl.JoinBlocks(slices.Repeat(one, s.w*s.h/64), s.w, s.h); !slices.Equal(got, cycled(s.w*s.h, 5)) {
			t.Errorf("%v: %d samples", s, len(got))
		}
	}
	for _, s := range []sides{{1024, 136}, {136, 1024}, {1032, 8}, {8, 1032}} {
		checkNoJoin(t, "past a limit", slices.Repeat(one, s.w*s.h/64), s)
	}
}

// Whatever comes: each function answers, and by the rule.
func TestSamplingOfAnything(t *testing.T) {
	d := dice(170)
	strange := append(far(), 0, 1, 2, 7, 8, 9, 16, 24, 64, 1023, 1024, 1025)
	side := func() int {
		if d.below(3) == 0 {
			return strange[d.below(len(strange))]
		}
		return d.below(20) - 1
	}
	all := remakers()
	for range 20000 {
		from, to := sides{side(), side()}, sides{side(), side()}
		n := d.below(100)
		if d.below(2) == 0 && countOf(from) < 5000 {
			n = countOf(from)
		}
		list := thrown(&d, n, 0, 4095)
		if n > 0 && d.below(5) == 0 {
			list[d.below(n)] = strange[d.below(len(strange))]
		}
		if impl.PlaneOk(list, from.w, from.h) != planeRule(list, from) {
			t.Fatalf("%v: PlaneOk is %v", from, !planeRule(list, from))
		}
		for what, r := range all {
			r.check(t, what, list, from, to)
		}
		checkCut(t, list, from)
	}
}

func TestJoinOfAnything(t *testing.T) {
	d := dice(175)
	lens, nums, joined := []int{0, 63, 65, 128}, append(far(), 4095, 4096, 65536), 0
	for range 5000 {
		s := sides{d.below(5) * 8, d.below(5) * 8}
		if d.below(4) == 0 {
			s.w += d.below(3) - 1
		}
		var blocks [][]int
		for range max(0, s.w/8*(s.h/8)+d.below(8)/6*(d.below(3)-1)) {
			blocks = append(blocks, thrown(&d, 64, 0, 4095))
		}
		if n := len(blocks); n > 0 {
			switch at := d.below(n); d.below(6) {
			case 0:
				blocks[at] = cycled(lens[d.below(len(lens))], 3)
			case 1:
				blocks[at][d.below(64)] = nums[d.below(len(nums))]
			}
		}
		got, want := impl.JoinBlocks(blocks, s.w, s.h), ruleJoin(blocks, s)
		if !slices.Equal(got, want) {
			t.Fatalf("%d blocks, %v: %v, and not %v", len(blocks), s, got, want)
		}
		if len(want) > 0 {
			joined++
		}
	}
	if !between(500, 4500, joined) {
		t.Error("the blocks say too little", joined)
	}
}

// checkPlaneLeft calls all functions that take a plane with room behind the
// list, and asks that all stays as it was.
func checkPlaneLeft(t *testing.T, list []int, from, to sides) {
	t.Helper()
	for _, behind := range [][]int{{1, 2, 3}, {math.MinInt, -1, 4096}, flat(9)} {
		g := guard(list, behind...)
		if impl.PlaneOk(g.list, from.w, from.h) != planeRule(list, from) {
			t.Fatalf("%v: PlaneOk hangs on the room behind the list", from)
		}
		for what, r := range remakers() {
			r.check(t, what, g.list, from, to)
			g.check(t, what)
		}
		if !sameBlocks(impl.CutBlocks(g.list, from.w, from.h), impl.CutBlocks(slices.Clone(list), from.w, from.h)) {
			t.Fatalf("%v: CutBlocks hangs on the room behind the list", from)
		}
		g.check(t, "CutBlocks")
	}
}

func TestSamplingLeavesPlanes(t *testing.T) {
	d := dice(171)
	for range 60 {
		from := sides{1 + d.below(20), 1 + d.below(20)}
		list := thrownPlane(&d, from)
		for _, to := range []sides{from, {1, 1}, {from.w, 1}, {from.w + 3, from.h + 5}, {0, 3}} {
			checkPlaneLeft(t, list, from, to)
		}
		checkPlaneLeft(t, with(list, len(list)-1, 4096), from, from)
		checkPlaneLeft(t, list[1:], from, from)
		checkPlaneLeft(t, list, sides{8, 8}, sides{8, 8})
	}
	s := sides{24, 16}
	checkPlaneLeft(t, risingPlane(s), s, s)
}

func TestSamplingLeavesBlocks(t *testing.T) {
	for _, s := range []sides{{8, 8}, {24, 16}} {
		good := ruleCutBlocks(risingPlane(s), s)
		last := len(good) - 1
		bad := cloneBlocks(good)
		bad[last][63] = 4096
		short := cloneBlocks(good)
		short[last] = short[last][:63:63]
		for what, blocks := range map[string][][]int{"good": good, "too few": good[:last], "a bad number": bad, "a short block": short} {
			own := roomy(impl.Coefs{Planes: [][][]int{blocks}})
			was, at := opened(own)
			a, b := impl.JoinBlocks(own.Planes[0], s.w, s.h), impl.JoinBlocks(cloneBlocks(blocks), s.w, s.h)
			now, then := opened(own)
			if !slices.Equal(a, b) || (len(a) == 0) == (what == "good") {
				t.Errorf("%s, %v: %d and %d samples", what, s, len(a), len(b))
			}
			if !sameCoefs(was, now) || !slices.Equal(at, then) {
				t.Errorf("%s, %v: blocks, or the room behind them, were written into", what, s)
			}
		}
	}
}

// Each answer is asked for twice, one of them and the argument written over;
// the sides may stay as they were.
func TestSamplingIsNewMemory(t *testing.T) {
	d := dice(172)
	for what, r := range remakers() {
		for range 60 {
			from := sides{1 + d.below(20), 1 + d.below(20)}
			to := from
			if d.below(2) == 0 {
				to = sides{1 + d.below(30), 1 + d.below(30)}
			}
			if !r.takes(from, to) {
				from, to = to, from
			}
			if !r.takes(from, to) {
				continue
			}
			list := thrownPlane(&d, from)
			own, want := slices.Clone(list), r.rule(list, from, to)
			a, b := r.of(own, from, to), r.of(own, from, to)
			scribble(a, 7)
			if !slices.Equal(own, list) {
				t.Fatalf("%s from %v to %v: the answer shares memory with the plane", what, from, to)
			}
			scribble(own, 8)
			if !slices.Equal(b, want) || !slices.Equal(r.of(list, from, to), want) {
				t.Fatalf("%s from %v to %v: an answer shares memory with another one or with the plane", what, from, to)
			}
		}
	}
}

func TestBlocksAreNewMemory(t *testing.T) {
	d := dice(173)
	for _, s := range []sides{{8, 8}, {16, 8}, {8, 16}, {40, 24}} {
		list := thrown(&d, s.w*s.h, 0, 4095)
		blocks := ruleCutBlocks(list, s)
		own := slices.Clone(list)
		a, b := impl.CutBlocks(own, s.w, s.h), impl.CutBlocks(own, s.w, s.h)
		if !scribbleOver(impl.Coefs{Planes: [][][]int{a}}) {
			t.Fatalf("%v: two blocks share memory", s)
		}
		if !slices.Equal(own, list) {
			t.Fatalf("%v: the blocks share memory with the plane", s)
		}
		scribble(own, 8)
		if !sameBlocks(b, blocks) {
			t.Fatalf("%v: the blocks share memory with other ones or with the plane", s)
		}
		lent := cloneBlocks(blocks)
		x, y := impl.JoinBlocks(lent, s.w, s.h), impl.JoinBlocks(lent, s.w, s.h)
		scribble(x, 9)
		if !sameBlocks(lent, blocks) {
			t.Fatalf("%v: the plane shares memory with the blocks", s)
		}
		scribbleOver(impl.Coefs{Planes: [][][]int{lent}})
		if !slices.Equal(y, list) {
			t.Fatalf("%v: the plane shares memory with the blocks or with another one", s)
		}
	}
	// Blocks that share memory among themselves.
	one := cycled(64, 1, 2, 3)
	joined := impl.JoinBlocks(slices.Repeat([][]int{one}, 4), 16, 16)
	cut := impl.CutBlocks(joined, 16, 16)
	if !sameBlocks(cut, slices.Repeat([][]int{one}, 4)) || !scribbleOver(impl.Coefs{Planes: [][][]int{cut}}) || !slices.Equal(one, cycled(64, 1, 2, 3)) {
		t.Error(joined)
	}
}

// planeAsked is a plane with what all functions answered.
type planeAsked struct {
	list     []int
	from, to sides
	answers  map[string][]int
	blocks   [][]int
	joined   []int
}

func (a planeAsked) same() bool {
	for what, r := range remakers() {
		if !slices.Equal(r.of(a.list, a.from, a.to), a.answers[what]) {
			return false
		}
	}
	blocks := impl.CutBlocks(a.list, a.from.w, a.from.h)
	return sameBlocks(blocks, a.blocks) && slices.Equal(impl.JoinBlocks(blocks, a.from.w, a.from.h), a.joined)
}

func planesAsked(d *dice) []planeAsked {
	var all []planeAsked
	for range 60 {
		from := sides{8 * (1 + d.below(4)), 8 * (1 + d.below(4))}
		to := sides{1 + d.below(40), 1 + d.below(40)}
		a := planeAsked{list: thrownPlane(d, from), from: from, to: to, answers: map[string][]int{}}
		for what, r := range remakers() {
			a.answers[what] = r.of(a.list, from, to)
		}
		a.blocks = impl.CutBlocks(a.list, from.w, from.h)
		a.joined = impl.JoinBlocks(a.blocks, from.w, from.h)
		all = append(all, a)
	}
	return all
}

// The same arguments give the same answers, whatever was asked for between,
// and asked from many goroutines at once.
func TestSamplingAtOnce(t *testing.T) {
	d := dice(174)
	list := planesAsked(&d)
	for range 3 {
		slices.Reverse(list)
		for _, a := range list {
			if !a.same() {
				t.Fatalf("from %v to %v: other answers", a.from, a.to)
			}
		}
	}
	var all sync.WaitGroup
	for range 8 {
		all.Add(1)
		go func() {
			defer all.Done()
			for _, a := range list {
				if !a.same() {
					t.Errorf("at once: from %v to %v: other answers", a.from, a.to)
				}
			}
		}()
	}
	all.Wait()
}
