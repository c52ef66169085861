package tests

import (
	"cmp"
	"math"
	"slices"
	"testing"

	"loop.example/g00139/impl"
)

// shared is a frame of these sides whose components have these H and V.
func shared(w, h int, hv ...[2]int) impl.Frame {
	f := impl.Frame{Prec: 8, Width: w, Height: h}
	for i, x := range hv {
		f.Comps = append(f.Comps, impl.Comp{Id: 10 - i, H: x[0], V: x[1], Q: i})
	}
	return f
}

// spot is a place as it is told by hand: component, row, column.
type spot [3]int

func placesAt(list []spot) []impl.Place {
	var out []impl.Place
	for _, s := range list {
		out = append(out, impl.Place{Comp: s[0], Row: s[1], Col: s[2]})
	}
	return out
}

// leastTimes is the least number of times that d makes at least n.
func leastTimes(n, d int) int {
	times := 0
	for times*d < n {
		times++
	}
	return times
}

func greatestShares(f impl.Frame) (int, int) {
	h := slices.MaxFunc(f.Comps, func(a, b impl.Comp) int { return a.H - b.H })
	v := slices.MaxFunc(f.Comps, func(a, b impl.Comp) int { return a.V - b.V })
	return h.H, v.V
}

func ruleSize(f impl.Frame, comp int) (int, int) {
	h, v := greatestShares(f)
	return leastTimes(f.Width*f.Comps[comp].H, h), leastTimes(f.Height*f.Comps[comp].V, v)
}

func ruleUnits(f impl.Frame) (int, int) {
	h, v := greatestShares(f)
	return leastTimes(f.Width, 8*h), leastTimes(f.Height, 8*v)
}

func ruleBlocks(f impl.Frame, comp int) (int, int) {
	wide, high := ruleUnits(f)
	return f.Comps[comp].H * wide, f.Comps[comp].V * high
}

// isNeeded tells whether a block has a sample of its component's plane.
func isNeeded(f impl.Frame, p impl.Place) bool {
	w, h := ruleSize(f, p.Comp)
	return 8*p.Col < w && 8*p.Row < h
}

// ruleOrder is OrderOf by another way than the program's: all blocks that
// there are, sorted by what the document says comes first.
func ruleOrder(f impl.Frame, comps []int) []impl.Place {
	var list []impl.Place
	for _, comp := range comps {
		wide, high := ruleBlocks(f, comp)
		for at := range wide * high {
			p := impl.Place{Comp: comp, Row: at % high, Col: at / high}
			if len(comps) > 1 || isNeeded(f, p) {
				list = append(list, p)
			}
		}
	}
	slices.SortFunc(list, func(a, b impl.Place) int {
		byPlace := cmp.Or(a.Comp-b.Comp, a.Row-b.Row, a.Col-b.Col)
		if len(comps) == 1 {
			return byPlace
		}
		x, y := f.Comps[a.Comp], f.Comps[b.Comp]
		return cmp.Or(a.Row/x.V-b.Row/y.V, a.Col/x.H-b.Col/y.H, byPlace)
	})
	return list
}

func ruleUnitCount(f impl.Frame, comps []int) int {
	if len(comps) == 1 {
		return len(ruleOrder(f, comps))
	}
	wide, high := ruleUnits(f)
	return wide * high
}

// risingComps are all lists of components that a frame of n has, rising.
func risingComps(n int) [][]int {
	var all [][]int
	for set := 1; set < 1<<n; set++ {
		var list []int
		for i := range n {
			if set>>i&1 == 1 {
				list = append(list, i)
			}
		}
		all = append(all, list)
	}
	return all
}

// allShares are the H and V of all components of each frame that is FrameOk.
func allShares() [][][2]int {
	var all [][][2]int
	lists := [][][2]int{nil}
	for range impl.MaxComps {
		var longer [][][2]int
		for _, list := range lists {
			for at := range 16 {
				with := slices.Concat(list, [][2]int{{1 + at/4, 1 + at%4}})
				if frameRule(shared(1, 1, with...)) {
					longer = append(longer, with)
				}
			}
		}
		all = append(all, longer...)
		lists = longer
	}
	return all
}

func checkComp(t *testing.T, f impl.Frame, comp int) {
	t.Helper()
	w, h := impl.SizeOf(f, comp)
	if x, y := ruleSize(f, comp); w != x || h != y {
		t.Fatalf("SizeOf %v, %d: %d by %d, and not %d by %d", f, comp, w, h, x, y)
	}
	wide, high := impl.BlocksOf(f, comp)
	if x, y := ruleBlocks(f, comp); wide != x || high != y {
		t.Fatalf("BlocksOf %v, %d: %d by %d, and not %d by %d", f, comp, wide, high, x, y)
	}
}

func checkOrder(t *testing.T, f impl.Frame, comps []int) {
	t.Helper()
	if n, want := impl.UnitsOf(f, comps), ruleUnitCount(f, comps); n != want {
		t.Fatalf("UnitsOf %v, %v: %d, and not %d", f, comps, n, want)
	}
	if list, want := impl.OrderOf(f, comps), ruleOrder(f, comps); !slices.Equal(list, want) {
		t.Fatalf("OrderOf %v, %v: %v, and not %v", f, comps, list, want)
	}
}

// checkPromise asks for promise 4, of the program's own answers alone.
func checkPromise(t *testing.T, f impl.Frame, comps []int) {
	t.Helper()
	list := impl.OrderOf(f, comps)
	seen := map[impl.Place]int{}
	for _, p := range list {
		seen[p]++
		wide, high := impl.BlocksOf(f, p.Comp)
		if seen[p] > 1 || !slices.Contains(comps, p.Comp) || p.Row < 0 || p.Col < 0 || p.Row >= high || p.Col >= wide {
			t.Fatalf("OrderOf %v, %v: %v is there twice, or is no place", f, comps, p)
		}
	}
	unit := 0
	for _, comp := range comps {
		unit += f.Comps[comp].H * f.Comps[comp].V
		w, h := impl.SizeOf(f, comp)
		for row := 0; 8*row < h; row++ {
			for col := 0; 8*col < w; col++ {
				if seen[impl.Place{Comp: comp, Row: row, Col: col}] != 1 {
					t.Fatalf("OrderOf %v, %v: row %d, column %d of %d is needed, but not there", f, comps, row, col, comp)
				}
			}
		}
	}
	if len(comps) == 1 {
		unit = 1
	}
	if n := impl.UnitsOf(f, comps); len(list) != n*unit {
		t.Fatalf("OrderOf %v, %v: %d places, but %d units of %d", f, comps, len(list), n, unit)
	}
}

func checkGeometry(t *testing.T, f impl.Frame) {
	t.Helper()
	for comp := range f.Comps {
		checkComp(t, f, comp)
	}
	for _, comps := range risingComps(len(f.Comps)) {
		checkOrder(t, f, comps)
		checkPromise(t, f, comps)
	}
}

func TestGeometryByHand(t *testing.T) {
	// Units of 24 by 16; 25 * 2 by 3 is 17, 16 * 1 by 2 is 8.
	f := shared(25, 16, [2]int{3, 1}, [2]int{2, 2})
	for comp, want := range [][4]int{{25, 8, 6, 1}, {17, 16, 4, 2}} {
		w, h := impl.SizeOf(f, comp)
		wide, high := impl.BlocksOf(f, comp)
		if got := [4]int{w, h, wide, high}; got != want {
			t.Error(comp, got)
		}
	}
	if a, b, c := impl.UnitsOf(f, []int{0}), impl.UnitsOf(f, []int{1}), impl.UnitsOf(f, []int{0, 1}); a != 4 || b != 6 || c != 2 {
		t.Error(a, b, c)
	}
	for _, x := range []struct {
		comps []int
		want  []impl.Place
	}{
		{[]int{0}, placesAt([]spot{{0, 0, 0}, {0, 0, 1}, {0, 0, 2}, {0, 0, 3}})},
		{[]int{1}, placesAt([]spot{{1, 0, 0}, {1, 0, 1}, {1, 0, 2}, {1, 1, 0}, {1, 1, 1}, {1, 1, 2}})},
		{[]int{0, 1}, placesAt([]spot{
			{0, 0, 0}, {0, 0, 1}, {0, 0, 2}, {1, 0, 0}, {1, 0, 1}, {1, 1, 0}, {1, 1, 1},
			{0, 0, 3}, {0, 0, 4}, {0, 0, 5}, {1, 0, 2}, {1, 0, 3}, {1, 1, 2}, {1, 1, 3},
		})},
	} {
		if got := impl.OrderOf(f, x.comps); !slices.Equal(got, x.want) {
			t.Error(x.comps, got)
		}
	}
}

// A component that is alone in the frame goes block by block although its H
// and V are not 1, and its plane is the picture's.
func TestGeometryOfOneWithShares(t *testing.T) {
	f := shared(9, 17, [2]int{2, 3})
	w, h := impl.SizeOf(f, 0)
	wide, high := impl.BlocksOf(f, 0)
	if w != 9 || h != 17 || wide != 2 || high != 3 {
		t.Error(w, h, wide, high)
	}
	want := placesAt([]spot{{0, 0, 0}, {0, 0, 1}, {0, 1, 0}, {0, 1, 1}, {0, 2, 0}, {0, 2, 1}})
	if got := impl.OrderOf(f, []int{0}); !slices.Equal(got, want) || impl.UnitsOf(f, []int{0}) != 6 {
		t.Error(got)
	}
}

// The unit is that of the whole frame, also where the component with the
// greatest H and V is not asked for.
func TestGeometryOfComponentsWithSmallShares(t *testing.T) {
	f := shared(33, 17, [2]int{1, 1}, [2]int{4, 2}, [2]int{1, 1})
	want := placesAt([]spot{
		{0, 0, 0}, {2, 0, 0}, {0, 0, 1}, {2, 0, 1},
		{0, 1, 0}, {2, 1, 0}, {0, 1, 1}, {2, 1, 1},
	})
	if got := impl.OrderOf(f, []int{0, 2}); !slices.Equal(got, want) || impl.UnitsOf(f, []int{0, 2}) != 4 {
		t.Error(got)
	}
	if n := impl.UnitsOf(f, []int{2}); n != 4 {
		t.Error(n)
	}
}

// Blocks that only whole units have come with several components, and not
// with one.
func TestHiddenBlocks(t *testing.T) {
	hidden := 0
	for _, hv := range allShares() {
		f := shared(1, 1, hv...)
		all := make([]int, len(hv))
		for comp, x := range hv {
			all[comp] = comp
			if list := impl.OrderOf(f, []int{comp}); len(list) != 1 || list[0] != (impl.Place{Comp: comp}) {
				t.Fatalf("%v: %v", f, list)
			}
			if wide, high := impl.BlocksOf(f, comp); wide != x[0] || high != x[1] {
				t.Fatalf("%v, %d: %d by %d blocks", f, comp, wide, high)
			}
		}
		if len(all) == 1 {
			continue
		}
		for _, p := range impl.OrderOf(f, all) {
			if !isNeeded(f, p) {
				hidden++
			}
		}
		checkOrder(t, f, all)
	}
	if hidden == 0 {
		t.Fatal("no hidden block was met")
	}
}

// Each H and V that frames may have, with sides of whole units and a sample
// more or less.
func TestGeometryOfAllShares(t *testing.T) {
	for _, hv := range allShares() {
		h, v := greatestShares(shared(1, 1, hv...))
		for at := range 9 {
			checkGeometry(t, shared(8*h+at%3-1, 8*v+at/3-1, hv...))
		}
		checkGeometry(t, shared(16*h+1, 8*v-7, hv...))
		checkGeometry(t, shared(8*h-7, 16*v+1, hv...))
	}
}

// All sides up to some units, of components whose H and V are not the
// greatest, or do not divide it.
func TestGeometryOfAllSides(t *testing.T) {
	for _, hv := range [][][2]int{
		{{1, 1}},
		{{3, 3}},
		{{2, 2}, {1, 1}, {1, 1}},
		{{3, 1}, {2, 2}, {1, 3}},
		{{1, 4}, {4, 1}},
		{{1, 2}, {3, 1}, {2, 1}, {1, 1}},
	} {
		for w := 1; w <= 50; w++ {
			for h := 1; h <= 50; h++ {
				f := shared(w, h, hv...)
				if w < 10 || h < 10 || w+h > 90 {
					checkGeometry(t, f)
				}
				for comp := range hv {
					checkComp(t, f, comp)
				}
			}
		}
	}
}

// The greatest sides and areas, which give the most blocks.
func TestGeometryAtTheLimits(t *testing.T) {
	for _, side := range [][2]int{{256, 64}, {64, 256}, {128, 128}, {256, 1}, {1, 256}, {255, 64}, {64, 255}, {127, 129}} {
		checkGeometry(t, shared(side[0], side[1], [2]int{1, 1}))
		checkGeometry(t, shared(side[0], side[1], [2]int{2, 2}, [2]int{2, 2}, [2]int{1, 1}, [2]int{1, 1}))
		checkGeometry(t, shared(side[0], side[1], [2]int{4, 1}, [2]int{1, 4}, [2]int{1, 1}, [2]int{1, 1}))
		checkGeometry(t, shared(side[0], side[1], [2]int{3, 3}, [2]int{1, 1}))
	}
	for what, f := range goodFrames() {
		if !impl.FrameOk(f) {
			t.Fatal(what)
		}
		checkGeometry(t, f)
	}
}

// noGeometry asks that nothing is answered.
func noGeometry(t *testing.T, f impl.Frame, comps []int) {
	t.Helper()
	n, list := impl.UnitsOf(f, comps), impl.OrderOf(f, comps)
	if n != 0 || len(list) != 0 {
		t.Errorf("%v, %v: %d units, %v", f, comps, n, list)
	}
}

func noComp(t *testing.T, f impl.Frame, comp int) {
	t.Helper()
	w, h := impl.SizeOf(f, comp)
	wide, high := impl.BlocksOf(f, comp)
	if w != 0 || h != 0 || wide != 0 || high != 0 {
		t.Errorf("%v, %d: a size of %d by %d, %d by %d blocks", f, comp, w, h, wide, high)
	}
	noGeometry(t, f, []int{comp})
}

func TestGeometryOfNoFrame(t *testing.T) {
	for _, f := range wrongFrames() {
		for comp := -1; comp <= impl.MaxComps+1; comp++ {
			noComp(t, f, comp)
		}
		for _, comps := range risingComps(impl.MaxComps) {
			noGeometry(t, f, comps)
		}
		noGeometry(t, f, nil)
	}
}

func TestGeometryOfNoComponent(t *testing.T) {
	for n := 1; n <= impl.MaxComps; n++ {
		f := plainFrame(n)
		for _, comp := range []int{-1, -2, n, n + 1, 100, 255, 1 << 32, 1 << 62, math.MinInt, math.MaxInt} {
			noComp(t, f, comp)
			noGeometry(t, f, []int{0, comp})
			noGeometry(t, f, []int{comp, 0})
			noGeometry(t, f, []int{comp, n - 1})
		}
	}
}

func TestGeometryOfWrongLists(t *testing.T) {
	for n := 1; n <= impl.MaxComps; n++ {
		f := plainFrame(n)
		noGeometry(t, f, nil)
		noGeometry(t, f, []int{})
		noGeometry(t, f, make([]int, 1000))
		lists := [][]int{{}}
		for i := 0; i < len(lists); i++ {
			list := lists[i]
			if isRising(list, n) {
				checkOrder(t, f, list)
			} else {
				noGeometry(t, f, list)
			}
			// One more than a frame can have, with what is not there on both sides.
			for comp := -1; comp <= n && len(list) <= 4; comp++ {
				lists = append(lists, slices.Concat(list, []int{comp}))
			}
		}
	}
}

// isRising tells whether comps are one or several of n components, rising.
func isRising(comps []int, n int) bool {
	return slices.ContainsFunc(risingComps(n), func(list []int) bool { return slices.Equal(list, comps) })
}

// checkListsLeft asks for each order with other components in the room behind
// the list.
func checkListsLeft(t *testing.T, what string, f impl.Frame) {
	t.Helper()
	ok := impl.FrameOk(f)
	for _, comps := range append(risingComps(impl.MaxComps), []int{0, 0}, []int{1, 0}, []int{-1}, nil) {
		c := guard(comps, 3, 4, 5)
		list, n := impl.OrderOf(f, c.list), impl.UnitsOf(f, c.list)
		c.check(t, what)
		if !ok || !isRising(comps, len(f.Comps)) {
			noGeometry(t, f, comps)
		} else if n != ruleUnitCount(f, comps) || !slices.Equal(list, ruleOrder(f, comps)) {
			t.Errorf("%s, %v: another answer with other room behind the list", what, comps)
		}
	}
}

func TestGeometryLeavesArguments(t *testing.T) {
	behind := []impl.Comp{{Id: 77, H: 4, V: 4}, {Id: 78, H: 1, V: 1}}
	for _, frames := range []map[string]impl.Frame{goodFrames(), wrongFrames()} {
		for what, f := range frames {
			g := guard(f.Comps, behind...)
			f.Comps = g.list
			checkListsLeft(t, what, f)
			for comp := range f.Comps {
				if impl.FrameOk(f) {
					checkComp(t, f, comp)
				} else {
					noComp(t, f, comp)
				}
			}
			g.check(t, what)
		}
	}
}

func TestOrdersAreNewMemory(t *testing.T) {
	f := shared(40, 30, [2]int{2, 2}, [2]int{1, 2}, [2]int{1, 1})
	for _, comps := range risingComps(3) {
		own, ownComps := cloneFrame(f), slices.Clone(comps)
		a, b := impl.OrderOf(own, ownComps), impl.OrderOf(own, ownComps)
		scribble(b, impl.Place{Comp: 9, Row: 9, Col: 9})
		scribble(own.Comps, impl.Comp{Id: 66})
		scribble(ownComps, 7)
		if !slices.Equal(a, ruleOrder(f, comps)) {
			t.Errorf("%v: the order shares memory with an argument or with another answer", comps)
		}
		checkOrder(t, f, comps)
	}
}
