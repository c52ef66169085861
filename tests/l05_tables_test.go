package tests

import (
	"cmp"
	"math"
	"math/big"
	"slices"
	"testing"

	"loop.example/g00139/impl"
)

// flat is a block or a table with the same number everywhere.
func flat(n int) []int { return slices.Repeat([]int{n}, 64) }

// with is a list with another number at one place.
func with(list []int, at, n int) []int {
	list = slices.Clone(list)
	list[at] = n
	return list
}

// cycled is a list of n numbers that begins with these, again and again.
func cycled(n int, nums ...int) []int {
	list := make([]int, n)
	for i := range list {
		list[i] = nums[i%len(nums)]
	}
	return list
}

// thrown is n numbers from low to high.
func thrown(d *dice, n, low, high int) []int {
	list := make([]int, n)
	for i := range list {
		list[i] = low + d.below(high-low+1)
	}
	return list
}

// numbersOk is the rule of blocks and tables: 64 numbers from low to high.
func numbersOk(list []int, low, high int) bool {
	return len(list) == 64 && slices.Min(list) >= low && slices.Max(list) <= high
}

func blockRule(list []int) bool { return numbersOk(list, -impl.MaxCoef, impl.MaxCoef) }

func tableRule(list []int) bool { return numbersOk(list, 1, impl.MaxStep) }

// ruleZigZag sorts the places by what the document says comes first.
func ruleZigZag() []int {
	list := make([]int, 64)
	for i := range list {
		list[i] = i
	}
	slices.SortFunc(list, func(a, b int) int {
		sumA, sumB := a/8+a%8, b/8+b%8
		byRow := a/8 - b/8
		if sumA%2 == 0 {
			byRow = -byRow
		}
		return cmp.Or(sumA-sumB, byRow)
	})
	return list
}

// ruleRounded is the greatest number that is not above (2n + d) / 2d.
func ruleRounded(n, d int) int {
	top, bottom := big.NewInt(int64(2*n+d)), big.NewInt(int64(2*d))
	return int(new(big.Int).Div(top, bottom).Int64())
}

// ruleScaled is one number of Scale.
func ruleScaled(n, quality int) int {
	return max(1, min(impl.MaxStep, ruleRounded(n*(100-quality), 50)))
}

// ruleQuantized counts whole steps, then looks at what is left: half a step
// or more is one further from 0.
func ruleQuantized(n, step int) int {
	steps, left := n/step, n%step
	switch {
	case 2*left >= step:
		return steps + 1
	case 2*left <= -step:
		return steps - 1
	}
	return steps
}

func ruleDequantized(n, step int) int {
	switch {
	case n*step > 32767:
		return 32767
	case n*step < -32767:
		return -32767
	}
	return n * step
}

// blocksToTry are blocks at the limits and between them.
func blocksToTry() [][]int {
	d := dice(5)
	all := [][]int{
		flat(0), flat(1), flat(-1), flat(impl.MaxCoef), flat(-impl.MaxCoef),
		cycled(64, -impl.MaxCoef, impl.MaxCoef, 0),
	}
	rising := make([]int, 64)
	for i := range rising {
		rising[i] = i - 20
	}
	all = append(all, rising)
	for range 20 {
		all = append(all, thrown(&d, 64, -impl.MaxCoef, impl.MaxCoef), thrown(&d, 64, -40, 40))
	}
	return all
}

// tablesToTry are tables at the limits and between them.
func tablesToTry() [][]int {
	d := dice(55)
	all := [][]int{flat(1), flat(2), flat(3), flat(impl.MaxStep - 1), flat(impl.MaxStep), cycled(64, 1, impl.MaxStep, 2)}
	for kind := range 4 {
		all = append(all, impl.Plain(kind))
	}
	for range 10 {
		all = append(all, thrown(&d, 64, 1, impl.MaxStep), thrown(&d, 64, 1, 9))
	}
	return all
}

// wrongLists are neither blocks nor tables.
func wrongLists() [][]int {
	all := [][]int{nil, {}, {1}, flat(1)[:1], flat(1)[:63], flat(1)[:8], cycled(65, 1), cycled(128, 1), cycled(4096, 1)}
	for _, at := range []int{0, 1, 7, 8, 31, 32, 62, 63} {
		for _, n := range []int{impl.MaxCoef + 1, -impl.MaxCoef - 1, 1 << 32, -1 << 32, 1<<32 + 1, 1 << 62, math.MaxInt, math.MinInt, math.MinInt + 1} {
			all = append(all, with(flat(1), at, n))
		}
	}
	return all
}

func TestTableLimits(t *testing.T) {
	if impl.MaxCoef != 32767 || impl.MaxStep != 1023 {
		t.Error(impl.MaxCoef, impl.MaxStep)
	}
}

// Each number by itself, at each place: what is at a limit and one past it.
func TestBlockOkAndTableOk(t *testing.T) {
	for at := range 64 {
		for _, x := range []struct {
			n            int
			block, table bool
		}{
			{-impl.MaxCoef - 1, false, false}, {-impl.MaxCoef, true, false}, {-impl.MaxCoef + 1, true, false},
			{-1, true, false}, {0, true, false}, {1, true, true}, {2, true, true},
			{impl.MaxStep - 1, true, true}, {impl.MaxStep, true, true}, {impl.MaxStep + 1, true, false},
			{impl.MaxCoef - 1, true, false}, {impl.MaxCoef, true, false}, {impl.MaxCoef + 1, false, false},
			{math.MinInt, false, false}, {math.MaxInt, false, false}, {1 << 32, false, false}, {1<<32 + 1, false, false},
		} {
			list := with(flat(1), at, x.n)
			if impl.BlockOk(list) != x.block || impl.TableOk(list) != x.table {
				t.Errorf("%d at place %d: %v and %v", x.n, at, impl.BlockOk(list), impl.TableOk(list))
			}
		}
	}
}

func TestBlockOkAndTableOkOfOtherLens(t *testing.T) {
	for n := range 200 {
		if ok := impl.BlockOk(make([]int, n)); ok != (n == 64) {
			t.Errorf("%d noughts: %v", n, ok)
		}
		list := cycled(n, 1)
		if b, q := impl.BlockOk(list), impl.TableOk(list); b != (n == 64) || q != (n == 64) {
			t.Errorf("%d ones: %v and %v", n, b, q)
		}
	}
}

func TestBlockOkAndTableOkByRule(t *testing.T) {
	for _, lists := range [][][]int{blocksToTry(), tablesToTry(), wrongLists()} {
		for _, list := range lists {
			if impl.BlockOk(list) != blockRule(list) || impl.TableOk(list) != tableRule(list) {
				t.Errorf("%v: %v and %v", list, impl.BlockOk(list), impl.TableOk(list))
			}
		}
	}
}

func TestZigZag(t *testing.T) {
	byHand := []int{
		0, 1, 8, 16, 9, 2, 3, 10, 17, 24, 32, 25, 18, 11, 4, 5,
		12, 19, 26, 33, 40, 48, 41, 34, 27, 20, 13, 6, 7, 14, 21, 28,
		35, 42, 49, 56, 57, 50, 43, 36, 29, 22, 15, 23, 30, 37, 44, 51,
		58, 59, 52, 45, 38, 31, 39, 46, 53, 60, 61, 54, 47, 55, 62, 63,
	}
	z := impl.ZigZag()
	if !slices.Equal(z, byHand) || !slices.Equal(z, ruleZigZag()) {
		t.Error(z)
	}
	sorted := slices.Sorted(slices.Values(z))
	for i, place := range sorted {
		if i != place {
			t.Fatal("not each place once", sorted)
		}
	}
}

func TestZigZagUndone(t *testing.T) {
	order := ruleZigZag()
	for _, block := range append(blocksToTry(), tablesToTry()...) {
		list, back := impl.ToZig(block), impl.FromZig(block)
		if len(list) != 64 || len(back) != 64 {
			t.Fatalf("%v: %v and %v", block, list, back)
		}
		for i, place := range order {
			if list[i] != block[place] || back[place] != block[i] {
				t.Fatalf("%v: place %d: %d there and %d back", block, place, list[i], back[place])
			}
		}
		if !slices.Equal(impl.FromZig(list), block) || !slices.Equal(impl.ToZig(back), block) {
			t.Fatalf("%v: not got back", block)
		}
	}
}

func TestZigZagOfNoBlock(t *testing.T) {
	for _, list := range wrongLists() {
		if a, b := impl.ToZig(list), impl.FromZig(list); len(a) != 0 || len(b) != 0 {
			t.Errorf("%v: %v and %v", list, a, b)
		}
	}
}

func TestPlain(t *testing.T) {
	for kind, rule := range []func(r, c int) int{
		func(r, c int) int { return 8 + 3*(r+c) },
		func(r, c int) int { return 10 + 6*(r+c) },
		func(r, c int) int { return 8 },
		func(r, c int) int { return 1 },
	} {
		q := impl.Plain(kind)
		if !impl.TableOk(q) {
			t.Fatal(kind, q)
		}
		for r := range 8 {
			for c := range 8 {
				if q[8*r+c] != rule(r, c) {
					t.Errorf("kind %d, row %d, column %d: %d", kind, r, c, q[8*r+c])
				}
			}
		}
	}
	for _, kind := range []int{-1, 4, -2, 5, 255, 256, 1 << 32, 1<<32 + 1, math.MinInt, math.MaxInt} {
		if q := impl.Plain(kind); len(q) != 0 {
			t.Error(kind, q)
		}
	}
}

func TestScaleByHand(t *testing.T) {
	for _, x := range []struct{ n, quality, want int }{
		{1, 0, 2}, {511, 0, 1022}, {512, 0, 1023}, {1023, 0, 1023}, {600, 0, 1023},
		{1, 50, 1}, {7, 50, 7}, {1023, 50, 1023},
		{1, 100, 1}, {1023, 100, 1},
		{1, 99, 1}, {24, 99, 1}, {25, 99, 1}, {74, 99, 1}, {75, 99, 2}, {1023, 99, 20},
		{1, 75, 1}, {3, 75, 2}, {5, 75, 3}, {2, 75, 1}, {4, 75, 2},
		{25, 49, 26}, {24, 49, 24}, {25, 51, 25}, {26, 51, 25}, {1, 26, 1}, {1, 25, 2}, {1, 24, 2},
		{1003, 49, 1023}, {1002, 49, 1022}, {1004, 49, 1023}, {1023, 49, 1023}, {682, 25, 1023}, {681, 25, 1022},
	} {
		if got := impl.Scale(flat(x.n), x.quality); !slices.Equal(got, flat(x.want)) {
			t.Errorf("%d with quality %d: %v, and not %d", x.n, x.quality, got, x.want)
		}
	}
}

// All steps with all qualities, each step at another place each time.
func TestScaleByRule(t *testing.T) {
	for quality := 0; quality <= 100; quality++ {
		for first := 1; first <= impl.MaxStep; first += 61 {
			q := make([]int, 64)
			for i := range q {
				q[i] = min(impl.MaxStep, first+(i+quality)%64)
			}
			got := impl.Scale(q, quality)
			if !impl.TableOk(got) {
				t.Fatal(q, quality, got)
			}
			for i, n := range q {
				if got[i] != ruleScaled(n, quality) {
					t.Fatalf("%d with quality %d: %d", n, quality, got[i])
				}
			}
		}
	}
}

func TestScaleOfOthers(t *testing.T) {
	for _, q := range tablesToTry() {
		for _, quality := range []int{-1, 101, -2, 102, 150, 1 << 32, 1<<32 + 50, 1 << 62, math.MinInt, math.MaxInt} {
			if got := impl.Scale(q, quality); len(got) != 0 {
				t.Fatalf("quality %d: %v", quality, got)
			}
		}
	}
	for _, q := range wrongTables() {
		for _, quality := range []int{-1, 0, 50, 99, 100, 101} {
			if got := impl.Scale(q, quality); len(got) != 0 {
				t.Fatalf("%v with quality %d: %v", q, quality, got)
			}
		}
	}
}

// wrongTables are lists that are no tables, blocks among them.
func wrongTables() [][]int {
	all := append(wrongLists(), flat(0), flat(-1), flat(impl.MaxStep+1), flat(impl.MaxCoef))
	for at := range 64 {
		for _, n := range []int{0, -1, impl.MaxStep + 1, 1024 + 1024} {
			all = append(all, with(flat(5), at, n))
		}
	}
	return all
}

func TestQuantizeByHand(t *testing.T) {
	for _, x := range []struct{ n, step, steps, back int }{
		{0, 1, 0, 0}, {1, 1, 1, 1}, {-1, 1, -1, -1}, {32767, 1, 32767, 32767}, {-32767, 1, -32767, -32767},
		{1, 2, 1, 2}, {-1, 2, -1, -2}, {3, 2, 2, 4}, {-3, 2, -2, -4},
		{1, 3, 0, 0}, {-1, 3, 0, 0}, {2, 3, 1, 3}, {-2, 3, -1, -3}, {4, 3, 1, 3}, {-4, 3, -1, -3}, {5, 3, 2, 6}, {-5, 3, -2, -6},
		{4, 8, 1, 8}, {-4, 8, -1, -8}, {3, 8, 0, 0}, {-3, 8, 0, 0}, {12, 8, 2, 16}, {-12, 8, -2, -16}, {11, 8, 1, 8}, {-11, 8, -1, -8},
		{511, 1023, 0, 0}, {-511, 1023, 0, 0}, {512, 1023, 1, 1023}, {-512, 1023, -1, -1023},
		{511, 1022, 1, 1022}, {-511, 1022, -1, -1022}, {510, 1022, 0, 0}, {-510, 1022, 0, 0},
		{32767, 1023, 32, 32736}, {-32767, 1023, -32, -32736},
		{32767, 2, 16384, 32767}, {-32767, 2, -16384, -32767}, {32766, 2, 16383, 32766},
		{32767, 1000, 33, 32767}, {-32767, 1000, -33, -32767}, {32767, 1008, 33, 32767}, {32767, 31, 1057, 32767},
	} {
		steps := impl.Quantize(flat(x.n), flat(x.step))
		back := impl.Dequantize(flat(x.steps), flat(x.step))
		if !slices.Equal(steps, flat(x.steps)) || !slices.Equal(back, flat(x.back)) {
			t.Errorf("%d by %d: %v, %v", x.n, x.step, steps, back)
		}
	}
}

func TestDequantizeIsCut(t *testing.T) {
	for _, x := range []struct{ n, step, want int }{
		{32767, 1, 32767}, {-32767, 1, -32767}, {32767, 1023, 32767}, {-32767, 1023, -32767},
		{32, 1023, 32736}, {33, 1023, 32767}, {-33, 1023, -32767},
		{32, 1024 - 1, 32736}, {64, 512, 32767}, {-64, 512, -32767}, {63, 520, 32760}, {4681, 7, 32767}, {-4681, 7, -32767}, {4682, 7, 32767},
		{16383, 2, 32766}, {16384, 2, 32767}, {-16384, 2, -32767}, {0, 1023, 0},
	} {
		if got := impl.Dequantize(flat(x.n), flat(x.step)); !slices.Equal(got, flat(x.want)) {
			t.Errorf("%d times %d: %v", x.n, x.step, got)
		}
	}
}

// checkLeft asks for promise 5, of the program's own answers alone: what is
// left of a number is no further from it than half a step.
func checkLeft(t *testing.T, block, q []int) {
	t.Helper()
	steps := impl.Quantize(block, q)
	if !impl.BlockOk(steps) {
		t.Fatalf("Quantize %v, %v: %v", block, q, steps)
	}
	back := impl.Dequantize(steps, q)
	if !impl.BlockOk(back) {
		t.Fatalf("Dequantize %v, %v: %v", steps, q, back)
	}
	for i, n := range block {
		if away := max(back[i]-n, n-back[i]); 2*away > q[i] {
			t.Fatalf("%d by %d: %d comes back", n, q[i], back[i])
		}
	}
}

func checkQuantize(t *testing.T, block, q []int) {
	t.Helper()
	checkLeft(t, block, q)
	steps, back := impl.Quantize(block, q), impl.Dequantize(block, q)
	for i, n := range block {
		if want := ruleQuantized(n, q[i]); steps[i] != want {
			t.Fatalf("Quantize %d by %d: %d, and not %d", n, q[i], steps[i], want)
		}
		if want := ruleDequantized(n, q[i]); back[i] != want {
			t.Fatalf("Dequantize %d by %d: %d, and not %d", n, q[i], back[i], want)
		}
	}
}

func TestQuantize(t *testing.T) {
	for _, q := range tablesToTry() {
		for _, block := range blocksToTry() {
			checkQuantize(t, block, q)
		}
		checkQuantize(t, q, q)
	}
	for _, block := range blocksToTry() {
		if !slices.Equal(impl.Quantize(block, flat(1)), block) || !slices.Equal(impl.Dequantize(block, flat(1)), block) {
			t.Fatal("a step of 1 changes", block)
		}
	}
}

// All numbers around halves of all steps, near 0 and near the limits.
func TestQuantizeAroundHalves(t *testing.T) {
	for step := 1; step <= impl.MaxStep; step++ {
		var nums []int
		for _, times := range []int{0, 1, 2, 7, impl.MaxCoef/step - 1, impl.MaxCoef / step} {
			for off := -1; off <= 2; off++ {
				n := times*step + step/2 + off
				nums = append(nums, min(n, impl.MaxCoef), max(-n, -impl.MaxCoef))
			}
		}
		checkQuantize(t, cycled(64, nums...), flat(step))
	}
}

// All numbers of a block with some steps, 64 at a time.
func TestQuantizeAllNumbers(t *testing.T) {
	for _, step := range []int{1, 2, 3, 8, 255, 1000, impl.MaxStep - 1, impl.MaxStep} {
		q := flat(step)
		for first := -impl.MaxCoef; first <= impl.MaxCoef; first += 64 {
			block := make([]int, 64)
			for i := range block {
				block[i] = min(first+i, impl.MaxCoef)
			}
			checkQuantize(t, block, q)
		}
	}
}

func noQuantize(t *testing.T, block, q []int) {
	t.Helper()
	if a, b := impl.Quantize(block, q), impl.Dequantize(block, q); len(a) != 0 || len(b) != 0 {
		t.Fatalf("%v by %v: %v and %v", block, q, a, b)
	}
}

func TestQuantizeOfOthers(t *testing.T) {
	for _, block := range wrongLists() {
		for _, q := range tablesToTry() {
			noQuantize(t, block, q)
		}
		noQuantize(t, block, block)
		noQuantize(t, block, flat(0))
	}
	for _, q := range wrongTables() {
		for _, block := range blocksToTry() {
			noQuantize(t, block, q)
		}
	}
}

// checkTablesLeft asks each function with other numbers in the room behind
// its lists.
func checkTablesLeft(t *testing.T, block, q []int) {
	t.Helper()
	for _, behind := range [][]int{{1, 1, 1}, {math.MinInt, 5}, flat(1)} {
		b, s := guard(block, behind...), guard(q, behind...)
		if impl.BlockOk(b.list) != blockRule(block) || impl.TableOk(s.list) != tableRule(q) {
			t.Errorf("%v, %v: another answer with other room behind the list", block, q)
		}
		for what, same := range map[string]bool{
			"ToZig":      slices.Equal(impl.ToZig(b.list), impl.ToZig(block)),
			"FromZig":    slices.Equal(impl.FromZig(b.list), impl.FromZig(block)),
			"Scale":      slices.Equal(impl.Scale(s.list, 20), impl.Scale(q, 20)),
			"Quantize":   slices.Equal(impl.Quantize(b.list, s.list), impl.Quantize(block, q)),
			"Dequantize": slices.Equal(impl.Dequantize(b.list, s.list), impl.Dequantize(block, q)),
		} {
			if !same {
				t.Errorf("%s %v, %v: another answer with other room behind the list", what, block, q)
			}
		}
		b.check(t, "block")
		s.check(t, "table")
	}
}

func TestTablesLeaveArguments(t *testing.T) {
	blocks, tables := append(blocksToTry(), wrongLists()...), tablesToTry()
	for i, block := range blocks {
		checkTablesLeft(t, block, tables[i%len(tables)])
	}
	for i, q := range wrongTables() {
		checkTablesLeft(t, blocks[i%len(blocks)], q)
	}
}

// Each answer is asked for twice, one of them and the arguments written over.
func TestTablesAreNewMemory(t *testing.T) {
	block, q := blocksToTry()[10], tablesToTry()[10]
	for what, ask := range map[string]func(block, q []int) []int{
		"ZigZag":       func(block, q []int) []int { return impl.ZigZag() },
		"ToZig":        func(block, q []int) []int { return impl.ToZig(block) },
		"FromZig":      func(block, q []int) []int { return impl.FromZig(block) },
		"Plain 0":      func(block, q []int) []int { return impl.Plain(0) },
		"Plain 1":      func(block, q []int) []int { return impl.Plain(1) },
		"Plain 2":      func(block, q []int) []int { return impl.Plain(2) },
		"Plain 3":      func(block, q []int) []int { return impl.Plain(3) },
		"Scale":        func(block, q []int) []int { return impl.Scale(q, 30) },
		"Scale by 1":   func(block, q []int) []int { return impl.Scale(q, 50) },
		"Quantize":     func(block, q []int) []int { return impl.Quantize(block, q) },
		"Dequantize":   func(block, q []int) []int { return impl.Dequantize(block, q) },
		"Quantize by1": func(block, q []int) []int { return impl.Quantize(block, flat(1)) },
		"of one list":  func(block, q []int) []int { return impl.Quantize(q, q) },
	} {
		ownBlock, ownTable := slices.Clone(block), slices.Clone(q)
		a, b := ask(ownBlock, ownTable), ask(ownBlock, ownTable)
		was := slices.Clone(a)
		if len(a) != 64 || !slices.Equal(a, b) {
			t.Errorf("%s: %v and %v", what, a, b)
		}
		scribble(b, 7)
		scribble(ownBlock, 8)
		scribble(ownTable, 9)
		if !slices.Equal(a, was) || !slices.Equal(ask(block, q), was) {
			t.Errorf("%s: the answer shares memory with an argument or with another answer", what)
		}
	}
}
