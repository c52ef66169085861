package tests

import (
	"math"
	"slices"
	"strconv"
	"testing"

	"loop.example/g00139/impl"
)

// ruleEmpty is EmptyCoefs by the rule alone.
func ruleEmpty(f impl.Frame) impl.Coefs {
	if !frameRule(f) {
		return impl.Coefs{}
	}
	c := impl.Coefs{}
	for comp := range f.Comps {
		wide, high := ruleBlocks(f, comp)
		plane := [][]int{}
		for range wide * high {
			plane = append(plane, flat(0))
		}
		c.Planes = append(c.Planes, plane)
	}
	return c
}

// ruleCoefs is CoefsOk by the rule alone: a hidden block has no other number
// than one from 0 to 0.
func ruleCoefs(f impl.Frame, c impl.Coefs) bool {
	if !frameRule(f) || len(c.Planes) != len(f.Comps) {
		return false
	}
	for comp, plane := range c.Planes {
		wide, high := ruleBlocks(f, comp)
		if len(plane) != wide*high {
			return false
		}
		for i, block := range plane {
			most := 0
			if isNeeded(f, impl.Place{Comp: comp, Row: i / wide, Col: i % wide}) {
				most = 16383
			}
			if !numbersOk(block, -most, most) {
				return false
			}
		}
	}
	return true
}

// ruleHas tells whether a place is one of a frame's planes.
func ruleHas(f impl.Frame, p impl.Place) bool {
	if !between(0, len(f.Comps)-1, p.Comp) {
		return false
	}
	wide, high := ruleBlocks(f, p.Comp)
	return between(0, high-1, p.Row) && between(0, wide-1, p.Col)
}

// allPlaces are those of all blocks of a frame, plane by plane, row by row.
func allPlaces(f impl.Frame) []impl.Place {
	var list []impl.Place
	for comp := range f.Comps {
		wide, high := ruleBlocks(f, comp)
		for i := range wide * high {
			list = append(list, impl.Place{Comp: comp, Row: i / wide, Col: i % wide})
		}
	}
	return list
}

// blockIn is the block at a place, as it lies in the coefficients.
func blockIn(f impl.Frame, c impl.Coefs, p impl.Place) *[]int {
	wide, _ := ruleBlocks(f, p.Comp)
	return &c.Planes[p.Comp][p.Row*wide+p.Col]
}

func cloneCoefs(c impl.Coefs) impl.Coefs {
	out := impl.Coefs{}
	for _, plane := range c.Planes {
		var blocks [][]int
		for _, block := range plane {
			blocks = append(blocks, slices.Clone(block))
		}
		out.Planes = append(out.Planes, blocks)
	}
	return out
}

func sameBlocks(a, b [][]int) bool { return slices.EqualFunc(a, b, slices.Equal) }

func sameCoefs(a, b impl.Coefs) bool { return slices.EqualFunc(a.Planes, b.Planes, sameBlocks) }

func isZeroCoefs(c impl.Coefs) bool { return len(c.Planes) == 0 }

// coefsWith are the coefficients with another block at a place.
func coefsWith(f impl.Frame, c impl.Coefs, p impl.Place, block []int) impl.Coefs {
	c = cloneCoefs(c)
	*blockIn(f, c, p) = slices.Clone(block)
	return c
}

// thrownCoefs have drawn numbers in all blocks that are not hidden.
func thrownCoefs(d *dice, f impl.Frame) impl.Coefs {
	c := ruleEmpty(f)
	for _, p := range allPlaces(f) {
		if isNeeded(f, p) {
			*blockIn(f, c, p) = thrown(d, 64, -impl.MaxLevel, impl.MaxLevel)
		}
	}
	return c
}

// fewBlocks are frames that have hidden rows, hidden columns, both or none,
// with planes that have few blocks.
func fewBlocks() map[string]impl.Frame {
	return map[string]impl.Frame{
		"one block":             shared(1, 1, [2]int{1, 1}),
		"one of several":        shared(17, 25, [2]int{1, 1}),
		"H and V of one alone":  shared(17, 25, [2]int{2, 3}),
		"a hidden row":          shared(16, 8, [2]int{1, 2}, [2]int{1, 1}),
		"a hidden column":       shared(8, 16, [2]int{2, 1}, [2]int{1, 1}),
		"both":                  shared(8, 8, [2]int{2, 2}, [2]int{1, 1}),
		"three hidden rows":     shared(3, 5, [2]int{1, 1}, [2]int{1, 4}),
		"three hidden columns":  shared(3, 5, [2]int{1, 1}, [2]int{4, 1}),
		"hidden in the second":  shared(17, 17, [2]int{1, 1}, [2]int{2, 2}),
		"no hidden":             shared(32, 16, [2]int{2, 2}, [2]int{1, 1}, [2]int{1, 1}),
		"2 of 3":                shared(25, 16, [2]int{3, 1}, [2]int{2, 2}),
		"four":                  shared(17, 9, [2]int{2, 2}, [2]int{1, 2}, [2]int{2, 1}, [2]int{1, 1}),
		"a sample into a unit":  shared(33, 17, [2]int{2, 2}, [2]int{1, 1}),
		"a sample into a block": shared(41, 25, [2]int{2, 2}, [2]int{1, 1}),
	}
}

// blocksForPlaces are blocks at the limits and between them.
func blocksForPlaces(d *dice) [][]int {
	all := [][]int{flat(0), flat(impl.MaxLevel), flat(-impl.MaxLevel), with(flat(0), 0, 1), with(flat(0), 63, -1)}
	return append(all, thrown(d, 64, -impl.MaxLevel, impl.MaxLevel), thrown(d, 64, -2, 2))
}

// checkPut asks for promise 11 at a place that is not hidden.
func checkPut(t *testing.T, f impl.Frame, c impl.Coefs, p impl.Place, block []int) {
	t.Helper()
	x := impl.WithBlock(f, c, p, block)
	if !sameCoefs(x, coefsWith(f, c, p, block)) {
		t.Fatalf("%v, %v: another block is not as it was, or this one is not the one that was put there", f, p)
	}
	if !impl.CoefsOk(f, x) || !slices.Equal(impl.BlockAt(f, x, p), block) {
		t.Fatalf("%v, %v: the block is not found where it was put", f, p)
	}
}

// checkNotPut asks that a block is refused.
func checkNotPut(t *testing.T, f impl.Frame, c impl.Coefs, p impl.Place, block []int) {
	t.Helper()
	if x := impl.WithBlock(f, c, p, block); !isZeroCoefs(x) {
		t.Fatalf("%v, %v: a block of %d numbers was put there", f, p, len(block))
	}
}

// checkPlace asks for what the rule says of a place that may be none.
func checkPlace(t *testing.T, f impl.Frame, c impl.Coefs, p impl.Place, block []int) {
	t.Helper()
	var want []int
	if ruleHas(f, p) {
		want = *blockIn(f, c, p)
	}
	if got := impl.BlockAt(f, c, p); !slices.Equal(got, want) {
		t.Fatalf("%v, %v: the block is %v, and not %v", f, p, got, want)
	}
	if ruleHas(f, p) && isNeeded(f, p) {
		checkPut(t, f, c, p, block)
	} else {
		checkNotPut(t, f, c, p, block)
	}
}

// checkCoefs asks of coefficients what the rule says of them.
func checkCoefs(t *testing.T, what string, f impl.Frame, c impl.Coefs) {
	t.Helper()
	want := ruleCoefs(f, c)
	if got := impl.CoefsOk(f, c); got != want {
		t.Fatalf("%s: %v: CoefsOk is %v", what, f, got)
	}
	p := impl.Place{}
	if got := impl.BlockAt(f, c, p); (len(got) == 64) != want || !want && len(got) != 0 {
		t.Fatalf("%s: %v: BlockAt is %v", what, f, got)
	}
	if got := impl.WithBlock(f, c, p, flat(1)); isZeroCoefs(got) == want {
		t.Fatalf("%s: %v: WithBlock is %v", what, f, got)
	}
}

func TestCoefsConstants(t *testing.T) {
	if impl.MaxLevel != 16383 {
		t.Fatal(impl.MaxLevel)
	}
}

func TestCoefsByHand(t *testing.T) {
	// Units of 16 by 16, 2 by 1 of them; 17 by 9 samples and 9 by 5: of the
	// first plane's 4 by 2 blocks 3 by 2 are needed, of the second's 2 by 1 all.
	f := shared(17, 9, [2]int{2, 2}, [2]int{1, 1})
	c := impl.EmptyCoefs(f)
	if len(c.Planes) != 2 || len(c.Planes[0]) != 8 || len(c.Planes[1]) != 2 || !impl.CoefsOk(f, c) {
		t.Fatal(c)
	}
	block := with(with(flat(0), 0, 5), 63, -16383)
	for p, at := range map[impl.Place][2]int{
		{Comp: 0, Row: 0, Col: 0}: {0, 0},
		{Comp: 0, Row: 0, Col: 2}: {0, 2},
		{Comp: 0, Row: 1, Col: 0}: {0, 4},
		{Comp: 0, Row: 1, Col: 2}: {0, 6},
		{Comp: 1, Row: 0, Col: 0}: {1, 0},
		{Comp: 1, Row: 0, Col: 1}: {1, 1},
	} {
		x := impl.WithBlock(f, c, p, block)
		if len(x.Planes) != 2 || !slices.Equal(x.Planes[at[0]][at[1]], block) {
			t.Errorf("%v: %v", p, x)
		}
	}
	for _, col := range []int{3, 4} {
		checkNotPut(t, f, c, impl.Place{Col: col}, block)
		checkNotPut(t, f, c, impl.Place{Row: 1, Col: col}, flat(0))
	}
	if b := impl.BlockAt(f, c, impl.Place{Row: 1, Col: 3}); !slices.Equal(b, flat(0)) {
		t.Error(b)
	}
	for _, i := range []int{3, 7} {
		x := cloneCoefs(c)
		x.Planes[0][i][9] = 1
		if impl.CoefsOk(f, x) {
			t.Error("a number in a hidden block", i)
		}
	}
}

func checkEmpty(t *testing.T, f impl.Frame) {
	t.Helper()
	c := impl.EmptyCoefs(f)
	if !sameCoefs(c, ruleEmpty(f)) || impl.CoefsOk(f, c) != frameRule(f) {
		t.Fatalf("%v: EmptyCoefs has %d planes", f, len(c.Planes))
	}
	for comp := range c.Planes {
		if wide, high := impl.BlocksOf(f, comp); len(c.Planes[comp]) != wide*high {
			t.Fatalf("%v: plane %d has %d blocks", f, comp, len(c.Planes[comp]))
		}
	}
}

func TestEmptyCoefs(t *testing.T) {
	for _, hv := range allShares() {
		h, v := greatestShares(shared(1, 1, hv...))
		for at := range 9 {
			checkEmpty(t, shared(8*h+at%3-1, 8*v+at/3-1, hv...))
		}
	}
	for _, frames := range []map[string]impl.Frame{goodFrames(), wrongFrames(), fewBlocks()} {
		for _, f := range frames {
			checkEmpty(t, f)
		}
	}
	for _, f := range wrongFrames() {
		if !isZeroCoefs(impl.EmptyCoefs(f)) {
			t.Fatalf("%v has planes", f)
		}
	}
}

// Promise 11, for each H and V that frames may have, with sides that fill
// units and sides that do not, at each place that there is.
func TestBlocksStandWhereTheyArePut(t *testing.T) {
	d := dice(11)
	hidden := 0
	for _, hv := range allShares() {
		h, v := greatestShares(shared(1, 1, hv...))
		for _, side := range [][2]int{{8 * h, 8 * v}, {8*h + 1, 8*v - 1}, {8*h - 7, 8*v + 1}} {
			f := shared(side[0], side[1], hv...)
			c := thrownCoefs(&d, f)
			checkCoefs(t, "drawn", f, c)
			for _, p := range allPlaces(f) {
				if !isNeeded(f, p) {
					hidden++
				}
				checkPlace(t, f, c, p, thrown(&d, 64, -impl.MaxLevel, impl.MaxLevel))
			}
		}
	}
	if hidden == 0 {
		t.Fatal("no hidden block was met")
	}
}

// Promise 11, of the program's own answers alone.
func TestOtherBlocksStay(t *testing.T) {
	d := dice(111)
	for what, f := range fewBlocks() {
		c := thrownCoefs(&d, f)
		for _, p := range allPlaces(f) {
			if !isNeeded(f, p) {
				continue
			}
			for _, block := range blocksForPlaces(&d) {
				x := impl.WithBlock(f, c, p, block)
				if !impl.CoefsOk(f, x) {
					t.Fatalf("%s, %v: not CoefsOk", what, p)
				}
				for _, q := range allPlaces(f) {
					want := impl.BlockAt(f, c, q)
					if q == p {
						want = block
					}
					if got := impl.BlockAt(f, x, q); !slices.Equal(got, want) {
						t.Fatalf("%s, %v: the block at %v is %v", what, p, q, got)
					}
				}
			}
		}
	}
}

// Blocks that are put one behind the other all stand at the end, and one that
// is put where another one stood takes its place.
func TestBlocksPutOneBehindTheOther(t *testing.T) {
	d := dice(1111)
	for what, f := range fewBlocks() {
		c, want := impl.EmptyCoefs(f), ruleEmpty(f)
		places := allPlaces(f)
		for range 3 * len(places) {
			p, block := places[d.below(len(places))], thrown(&d, 64, -impl.MaxLevel, impl.MaxLevel)
			if !isNeeded(f, p) {
				checkNotPut(t, f, c, p, block)
				continue
			}
			c, want = impl.WithBlock(f, c, p, block), coefsWith(f, want, p, block)
		}
		if !sameCoefs(c, want) {
			t.Errorf("%s: other blocks than those that were put", what)
		}
	}
}

// The greatest frames, with the most blocks and the longest rows and columns.
func TestCoefsOfGreatFrames(t *testing.T) {
	d := dice(11111)
	for _, side := range [][2]int{{256, 64}, {64, 256}, {128, 128}, {256, 1}, {1, 256}, {249, 57}} {
		for _, hv := range [][][2]int{{{1, 1}, {1, 1}, {1, 1}, {1, 1}}, {{2, 2}, {2, 2}, {1, 1}, {1, 1}}, {{3, 3}, {1, 1}}, {{4, 1}, {1, 4}}} {
			f := shared(side[0], side[1], hv...)
			c := thrownCoefs(&d, f)
			checkCoefs(t, "great", f, c)
			places := allPlaces(f)
			for _, p := range []impl.Place{places[0], places[len(places)-1], places[d.below(len(places))], places[d.below(len(places))]} {
				checkPlace(t, f, c, p, thrown(&d, 64, -impl.MaxLevel, impl.MaxLevel))
			}
			last := len(f.Comps) - 1
			c.Planes[last][len(c.Planes[last])-1][63] = impl.MaxLevel + 1
			checkCoefs(t, "great, the last number", f, c)
		}
	}
}

// levels are numbers at the limits and far past them.
func levels() []int {
	return append(far(), -impl.MaxLevel-1, -impl.MaxLevel, -1, 0, 1, impl.MaxLevel, impl.MaxLevel+1, -impl.MaxCoef, impl.MaxCoef)
}

// Each number of each block by itself, hidden ones too.
func TestCoefsNumbers(t *testing.T) {
	for what, f := range fewBlocks() {
		c := impl.EmptyCoefs(f)
		for _, p := range allPlaces(f) {
			block := *blockIn(f, c, p)
			for i := range block {
				for _, n := range levels() {
					block[i] = n
					if got := impl.CoefsOk(f, c); got != ruleCoefs(f, c) {
						t.Fatalf("%s: %d at %v, %d: CoefsOk is %v", what, n, p, i, got)
					}
				}
				block[i] = 0
			}
		}
	}
}

// Hidden blocks in a hidden row, in a hidden column and in both, beside the
// last ones that are not hidden.
func TestCoefsHidden(t *testing.T) {
	// Units of 24 by 32: of the second plane's 1 by 4 blocks 1 by 3 are needed,
	// of the third's 3 by 1 blocks 2 by 1.
	f := shared(9, 17, [2]int{1, 1}, [2]int{1, 4}, [2]int{3, 1})
	wide := shared(9, 17, [2]int{3, 3})
	for _, x := range []struct {
		f        impl.Frame
		comp     int
		row, col int
		hidden   bool
	}{
		{f, 0, 0, 0, false},
		{f, 1, 0, 0, false}, {f, 1, 2, 0, false}, {f, 1, 3, 0, true},
		{f, 2, 0, 0, false}, {f, 2, 0, 1, false}, {f, 2, 0, 2, true},
		{wide, 0, 0, 0, false}, {wide, 0, 2, 1, false}, {wide, 0, 0, 2, true}, {wide, 0, 2, 2, true},
		{shared(9, 9, [2]int{3, 3}), 0, 1, 1, false}, {shared(9, 9, [2]int{3, 3}), 0, 2, 0, true},
		{shared(9, 9, [2]int{3, 3}), 0, 2, 1, true}, {shared(9, 9, [2]int{3, 3}), 0, 1, 2, true},
		{shared(9, 9, [2]int{3, 3}), 0, 2, 2, true},
	} {
		p := impl.Place{Comp: x.comp, Row: x.row, Col: x.col}
		for i := range 64 {
			for _, n := range []int{1, -1, impl.MaxLevel, -impl.MaxLevel} {
				block := with(flat(0), i, n)
				c := coefsWith(x.f, impl.EmptyCoefs(x.f), p, block)
				if impl.CoefsOk(x.f, c) == x.hidden {
					t.Fatalf("%v, %v: %d at %d", x.f, p, n, i)
				}
				if isZeroCoefs(impl.WithBlock(x.f, impl.EmptyCoefs(x.f), p, block)) != x.hidden {
					t.Fatalf("%v, %v: WithBlock with %d at %d", x.f, p, n, i)
				}
			}
		}
		// Noughts stand in a hidden block already, and all the same it is none to put one in.
		if isZeroCoefs(impl.WithBlock(x.f, impl.EmptyCoefs(x.f), p, flat(0))) != x.hidden {
			t.Fatalf("%v, %v: WithBlock with noughts", x.f, p)
		}
		if got := impl.BlockAt(x.f, impl.EmptyCoefs(x.f), p); !slices.Equal(got, flat(0)) {
			t.Fatalf("%v, %v: %v", x.f, p, got)
		}
	}
}

// otherCounts are coefficients with a list that is too short or too long.
func otherCounts(c impl.Coefs) map[string]impl.Coefs {
	m := map[string]impl.Coefs{
		"no planes":           {},
		"an empty list":       {Planes: [][][]int{}},
		"an empty plane more": {Planes: append(cloneCoefs(c).Planes, nil)},
		"a plane ahead":       {Planes: slices.Concat(cloneCoefs(c).Planes[:1], cloneCoefs(c).Planes)},
		"many planes":         {Planes: slices.Repeat(cloneCoefs(c).Planes, 200)},
	}
	change := func(what string, do func(c *impl.Coefs)) {
		x := cloneCoefs(c)
		do(&x)
		m[what] = x
	}
	for k, plane := range c.Planes {
		at := " in plane " + strconv.Itoa(k)
		change("plane too few"+at, func(c *impl.Coefs) { c.Planes = slices.Delete(c.Planes, k, k+1) })
		change("plane too many"+at, func(c *impl.Coefs) { c.Planes = slices.Insert(c.Planes, k, cloneCoefs(*c).Planes[k]) })
		change("no blocks"+at, func(c *impl.Coefs) { c.Planes[k] = nil })
		change("block too few"+at, func(c *impl.Coefs) { c.Planes[k] = c.Planes[k][:len(plane)-1] })
		change("first block away"+at, func(c *impl.Coefs) { c.Planes[k] = c.Planes[k][1:] })
		change("block too many"+at, func(c *impl.Coefs) { c.Planes[k] = append(c.Planes[k], flat(0)) })
		change("empty block too many"+at, func(c *impl.Coefs) { c.Planes[k] = append(c.Planes[k], nil) })
		change("block ahead"+at, func(c *impl.Coefs) { c.Planes[k] = slices.Insert(c.Planes[k], 0, flat(0)) })
		for i := range plane {
			here := at + ", block " + strconv.Itoa(i)
			change("number too few"+here, func(c *impl.Coefs) { c.Planes[k][i] = c.Planes[k][i][:63] })
			change("number too many"+here, func(c *impl.Coefs) { c.Planes[k][i] = append(c.Planes[k][i], 0) })
			change("no number"+here, func(c *impl.Coefs) { c.Planes[k][i] = nil })
			change("twice as many"+here, func(c *impl.Coefs) { c.Planes[k][i] = make([]int, 128) })
		}
	}
	return m
}

func TestCoefsOfOtherCounts(t *testing.T) {
	d := dice(5)
	for what, f := range fewBlocks() {
		for _, c := range []impl.Coefs{impl.EmptyCoefs(f), thrownCoefs(&d, f)} {
			checkCoefs(t, what, f, c)
			for other, x := range otherCounts(c) {
				if ruleCoefs(f, x) {
					t.Fatalf("%s, %s: the rule takes it", what, other)
				}
				checkCoefs(t, what+", "+other, f, x)
			}
		}
	}
}

// Numbers past the limit, also where the block that is asked for, or put,
// stands at another place.
func TestCoefsThatAreNone(t *testing.T) {
	for what, f := range fewBlocks() {
		for _, q := range allPlaces(f) {
			for _, n := range []int{impl.MaxLevel + 1, -impl.MaxLevel - 1} {
				c := impl.EmptyCoefs(f)
				(*blockIn(f, c, q))[40] = n
				for _, p := range allPlaces(f) {
					if got := impl.BlockAt(f, c, p); len(got) != 0 {
						t.Fatalf("%s: %d at %v: BlockAt %v is %v", what, n, q, p, got)
					}
					checkNotPut(t, f, c, p, flat(0))
				}
			}
		}
	}
}

// Coefficients of one frame, asked for with another one.
func TestCoefsOfAnotherFrame(t *testing.T) {
	d := dice(6)
	taken, refused := 0, 0
	for _, f := range fewBlocks() {
		for _, c := range []impl.Coefs{impl.EmptyCoefs(f), thrownCoefs(&d, f)} {
			for what, g := range fewBlocks() {
				checkCoefs(t, what, g, c)
				if ruleCoefs(g, c) {
					taken++
				} else {
					refused++
				}
			}
			for what, g := range wrongFrames() {
				checkCoefs(t, what, g, c)
			}
		}
	}
	if taken == 0 || refused == 0 {
		t.Fatal(taken, refused)
	}
}

// What is not of the planes may be another one; a side that leaves fewer
// blocks needed may not, where a number stands in one of them.
func TestCoefsOfFramesAlmostAlike(t *testing.T) {
	d := dice(66)
	f := shared(17, 17, [2]int{2, 2}, [2]int{1, 1})
	c := thrownCoefs(&d, f)
	for what, change := range map[string]func(f *impl.Frame){
		"Prec":    func(f *impl.Frame) { f.Prec = 12 },
		"Restart": func(f *impl.Frame) { f.Restart = 7 },
		"Ids":     func(f *impl.Frame) { f.Comps[0].Id = 200 },
		"Q":       func(f *impl.Frame) { f.Comps[1].Q = 3 },
		"24 wide": func(f *impl.Frame) { f.Width = 24 },
		"32 high": func(f *impl.Frame) { f.Height = 32 },
	} {
		g := cloneFrame(f)
		change(&g)
		if !impl.CoefsOk(g, c) {
			t.Errorf("%s: refused", what)
		}
		checkCoefs(t, what, g, c)
	}
	for what, change := range map[string]func(f *impl.Frame){
		"16 wide":  func(f *impl.Frame) { f.Width = 16 },
		"16 high":  func(f *impl.Frame) { f.Height = 16 },
		"33 wide":  func(f *impl.Frame) { f.Width = 33 },
		"33 high":  func(f *impl.Frame) { f.Height = 33 },
		"H":        func(f *impl.Frame) { f.Comps[1].H = 2 },
		"V":        func(f *impl.Frame) { f.Comps[0].V = 1 },
		"no Prec":  func(f *impl.Frame) { f.Prec = 10 },
		"Id alike": func(f *impl.Frame) { f.Comps[0].Id = f.Comps[1].Id },
	} {
		g := cloneFrame(f)
		change(&g)
		if impl.CoefsOk(g, c) {
			t.Errorf("%s: taken", what)
		}
		checkCoefs(t, what, g, c)
	}
	// As many blocks, and other rows and columns: 4 by 2 of which 3 by 2 are
	// needed, and 2 by 4 of which 2 by 3 are.
	wide, high := shared(17, 9, [2]int{2, 2}), shared(9, 17, [2]int{2, 2})
	for _, p := range allPlaces(wide) {
		x := coefsWith(wide, impl.EmptyCoefs(wide), p, flat(1))
		checkCoefs(t, "wide", wide, x)
		checkCoefs(t, "high", high, x)
	}
}

// All places in and around the planes, each number of them by itself and all
// together: none may be found in another row, or in another plane.
func TestPlaces(t *testing.T) {
	d := dice(7)
	for _, f := range fewBlocks() {
		c := thrownCoefs(&d, f)
		block := thrown(&d, 64, -impl.MaxLevel, impl.MaxLevel)
		for comp := -1; comp <= len(f.Comps); comp++ {
			wide, high := 2, 2
			if between(0, len(f.Comps)-1, comp) {
				wide, high = ruleBlocks(f, comp)
			}
			for row := -1; row <= high; row++ {
				for col := -1; col <= wide; col++ {
					checkPlace(t, f, c, impl.Place{Comp: comp, Row: row, Col: col}, block)
				}
			}
		}
	}
}

func TestPlacesFarAway(t *testing.T) {
	d := dice(77)
	for _, f := range fewBlocks() {
		c := thrownCoefs(&d, f)
		for comp := range f.Comps {
			wide, high := ruleBlocks(f, comp)
			for _, n := range append(far(), 100, wide*high, wide*high-1, -wide, math.MaxInt-wide+1) {
				for _, p := range []impl.Place{
					{Comp: n}, {Comp: comp, Row: n}, {Comp: comp, Col: n}, {Comp: comp, Row: n, Col: n},
					{Comp: comp, Row: n, Col: -n}, {Comp: comp, Row: -n, Col: wide * n}, {Comp: n, Row: n, Col: n},
				} {
					checkPlace(t, f, c, p, flat(1))
				}
			}
		}
	}
}

func TestBlocksToPut(t *testing.T) {
	d := dice(8)
	f := shared(17, 9, [2]int{2, 2}, [2]int{1, 1})
	c := thrownCoefs(&d, f)
	for _, p := range allPlaces(f) {
		if !isNeeded(f, p) {
			continue
		}
		for _, n := range []int{0, 1, 2, 8, 62, 63, 65, 66, 128, 4096} {
			checkNotPut(t, f, c, p, make([]int, n))
			checkNotPut(t, f, c, p, cycled(n, 1))
		}
		checkNotPut(t, f, c, p, nil)
		for i := range 64 {
			for _, n := range levels() {
				block := with(cycled(64, 1, -2, 3), i, n)
				if between(-16383, 16383, n) {
					checkPut(t, f, c, p, block)
				} else {
					checkNotPut(t, f, c, p, block)
				}
			}
		}
	}
}

// roomy is coefficients in new memory, with what must not be seen in the room
// behind each list.
func roomy(c impl.Coefs) impl.Coefs {
	out := impl.Coefs{}
	for _, plane := range c.Planes {
		var blocks [][]int
		for _, block := range plane {
			blocks = append(blocks, guard(block, 5, impl.MaxLevel+1).list)
		}
		n := len(blocks)
		out.Planes = append(out.Planes, append(blocks, flat(6), flat(7))[:n])
	}
	n := len(out.Planes)
	out.Planes = append(out.Planes, [][]int{flat(8)}, [][]int{flat(9)})[:n]
	return out
}

// opened is what stands in each list and in the room behind it, and where.
func opened(c impl.Coefs) (impl.Coefs, []*int) {
	out, where := impl.Coefs{}, []*int{}
	for _, plane := range c.Planes[:cap(c.Planes)] {
		var blocks [][]int
		for _, block := range plane[:cap(plane)] {
			whole := block[:cap(block)]
			if len(whole) > 0 {
				where = append(where, &whole[0])
			}
			blocks = append(blocks, slices.Clone(whole))
		}
		out.Planes = append(out.Planes, blocks)
	}
	return out, where
}

// checkCoefsLeft calls all functions with room behind each list, and asks that all
// stays as it was and that they answer as without it.
func checkCoefsLeft(t *testing.T, what string, f impl.Frame, c impl.Coefs, p impl.Place, block []int) {
	t.Helper()
	own := roomy(c)
	was, at := opened(own)
	b := guard(block, 11, impl.MaxLevel+1)
	comps := guard(f.Comps, impl.Comp{Id: 99, H: 1, V: 1})
	g := f
	g.Comps = comps.list
	empty, ok := impl.EmptyCoefs(g), impl.CoefsOk(g, own)
	got, x := impl.BlockAt(g, own, p), impl.WithBlock(g, own, p, b.list)
	b.check(t, what)
	comps.check(t, what)
	now, then := opened(own)
	if !sameCoefs(was, now) || !slices.Equal(at, then) {
		t.Fatalf("%s: coefficients, or the room behind them, were written into", what)
	}
	if !sameCoefs(empty, impl.EmptyCoefs(f)) || ok != impl.CoefsOk(f, c) || !slices.Equal(got, impl.BlockAt(f, c, p)) || !sameCoefs(x, impl.WithBlock(f, c, p, block)) {
		t.Fatalf("%s: another answer with other room behind the lists", what)
	}
}

func TestCoefsLeaveArguments(t *testing.T) {
	d := dice(9)
	for what, f := range fewBlocks() {
		c := thrownCoefs(&d, f)
		for _, p := range append(allPlaces(f), impl.Place{Comp: -1}, impl.Place{Row: 99}) {
			checkCoefsLeft(t, what, f, c, p, thrown(&d, 64, -impl.MaxLevel, impl.MaxLevel))
			checkCoefsLeft(t, what, f, c, p, flat(impl.MaxLevel+1))
			checkCoefsLeft(t, what, f, c, p, flat(1)[:63:63])
			checkCoefsLeft(t, what, f, c, p, nil)
		}
		for other, x := range otherCounts(c) {
			checkCoefsLeft(t, what+", "+other, f, x, impl.Place{}, flat(1))
		}
	}
}

// scribbleOver writes a number of its own over each block with its spare room,
// and tells whether each kept it: lists that share memory do not; then so with
// the lists of blocks.
func scribbleOver(c impl.Coefs) bool {
	for _, plane := range c.Planes {
		for i, block := range plane {
			scribble(block, 1000+i)
		}
	}
	own := true
	for k, plane := range c.Planes {
		for i, block := range plane {
			own = own && slices.Equal(block, flat(1000+i))
			scribble(block, -1000-k)
		}
	}
	for k, plane := range c.Planes {
		for _, block := range plane {
			own = own && slices.Equal(block, flat(-1000-k))
		}
	}
	for k, plane := range c.Planes {
		scribble(plane, []int{k})
	}
	for k, plane := range c.Planes {
		for _, block := range plane {
			own = own && slices.Equal(block, []int{k})
		}
	}
	return own
}

func TestCoefsAreNewMemory(t *testing.T) {
	d := dice(10)
	for what, f := range fewBlocks() {
		c := thrownCoefs(&d, f)
		for _, p := range allPlaces(f) {
			own, block := cloneCoefs(c), thrown(&d, 64, -impl.MaxLevel, impl.MaxLevel)
			want := impl.Coefs{}
			if isNeeded(f, p) {
				want = coefsWith(f, c, p, block)
			}
			put := slices.Clone(block)
			x, y := impl.WithBlock(f, own, p, put), impl.WithBlock(f, own, p, put)
			a, b := impl.BlockAt(f, own, p), impl.BlockAt(f, own, p)
			e, other := impl.EmptyCoefs(f), impl.EmptyCoefs(f)
			scribble(a, 3)
			if !scribbleOver(y) || !scribbleOver(other) {
				t.Fatalf("%s, %v: two lists of one answer share memory", what, p)
			}
			if !sameCoefs(own, c) || !slices.Equal(put, block) {
				t.Fatalf("%s, %v: an answer shares memory with an argument", what, p)
			}
			scribbleOver(own)
			scribble(put, 4)
			if !sameCoefs(x, want) || !slices.Equal(b, *blockIn(f, c, p)) || !sameCoefs(e, ruleEmpty(f)) {
				t.Fatalf("%s, %v: an answer shares memory with an argument or another answer", what, p)
			}
		}
	}
}

// Lists that share memory among themselves are coefficients as others are,
// and what comes of them shares none.
func TestCoefsOfSharedLists(t *testing.T) {
	f := shared(17, 25, [2]int{1, 1}, [2]int{1, 1})
	one := cycled(64, 1, 2, 3)
	plane := slices.Repeat([][]int{one}, 12)
	c := impl.Coefs{Planes: [][][]int{plane, plane}}
	p := impl.Place{Comp: 1, Row: 2, Col: 1}
	want := coefsWith(f, c, p, flat(9))
	x := impl.WithBlock(f, c, p, flat(9))
	if !sameCoefs(x, want) || !slices.Equal(one, cycled(64, 1, 2, 3)) || !scribbleOver(x) {
		t.Fatal(x)
	}
	// A block of the coefficients themselves.
	y := impl.WithBlock(f, c, impl.Place{}, c.Planes[1][3])
	if !sameCoefs(y, c) || !scribbleOver(y) || !slices.Equal(one, cycled(64, 1, 2, 3)) {
		t.Fatal(y)
	}
}

// The same arguments give the same answers, whatever was asked for between.
func TestCoefsAgain(t *testing.T) {
	d := dice(12)
	type asked struct {
		f     impl.Frame
		c     impl.Coefs
		p     impl.Place
		block []int
		empty impl.Coefs
		at    []int
		put   impl.Coefs
	}
	var list []asked
	for _, f := range fewBlocks() {
		places := allPlaces(f)
		for range 5 {
			a := asked{f: f, c: thrownCoefs(&d, f), p: places[d.below(len(places))], block: thrown(&d, 64, -impl.MaxLevel, impl.MaxLevel)}
			a.empty, a.at, a.put = impl.EmptyCoefs(f), impl.BlockAt(f, a.c, a.p), impl.WithBlock(f, a.c, a.p, a.block)
			list = append(list, a)
		}
	}
	for range 3 {
		slices.Reverse(list)
		for _, a := range list {
			if !sameCoefs(impl.EmptyCoefs(a.f), a.empty) || !impl.CoefsOk(a.f, a.c) || !slices.Equal(impl.BlockAt(a.f, a.c, a.p), a.at) || !sameCoefs(impl.WithBlock(a.f, a.c, a.p, a.block), a.put) {
				t.Fatalf("%v: other answers", a.f)
			}
		}
	}
}
