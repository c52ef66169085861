package tests

import (
	"math"
	"slices"
	"testing"

	"loop.example/g00139/impl"
)

// Items that stand for noughts alone.
var (
	sixteen = impl.Item{Run: 15}
	ending  = impl.Item{}
)

// farNumbers are no coefficients, some of them with low bits that look like
// one.
func farNumbers() []int {
	return []int{
		impl.MaxCoef + 1, -impl.MaxCoef - 1, impl.MaxCoef + 2, -impl.MaxCoef - 2, 65535, 65536, -65536,
		1 << 31, -1 << 31, 1 << 32, -1 << 32, 1<<32 + 1, 1<<32 + impl.MaxCoef, 1 << 62, -1 << 62,
		math.MaxInt, math.MaxInt - 1, math.MinInt, math.MinInt + 1,
	}
}

// ruleClass counts the bits of a number without its sign one by one.
func ruleClass(n int) int {
	if n < -32767 || n > 32767 {
		return -1
	}
	count := 0
	for ; n != 0; n /= 2 {
		count++
	}
	return count
}

func ruleBits(n int) int {
	c := ruleClass(n)
	switch {
	case c == -1:
		return -1
	case n >= 0:
		return n
	}
	power := 1
	for range c {
		power *= 2
	}
	return n + power - 1
}

// itemFor is the Item of a number that is not 0.
func itemFor(run, n int) impl.Item {
	return impl.Item{Run: run, Size: ruleClass(n), Bits: ruleBits(n)}
}

// ruleRuns looks from each number that is not 0 back to the one before it.
func ruleRuns(list []int) []impl.Item {
	var items []impl.Item
	last := -1
	for i, n := range list {
		if n == 0 {
			continue
		}
		ahead := i - last - 1
		for ; ahead > 15; ahead -= 16 {
			items = append(items, sixteen)
		}
		items = append(items, itemFor(ahead, n))
		last = i
	}
	if last != len(list)-1 {
		items = append(items, ending)
	}
	return items
}

// Kinds of items, for the rule of FromRuns.
const (
	wrongItem = iota
	numberItem
	sixteenItem
	endingItem
)

func kindOfItem(x impl.Item) int {
	switch {
	case x == ending:
		return endingItem
	case x == sixteen:
		return sixteenItem
	case x.Run < 0 || x.Run > 15 || x.Size < 1 || x.Size > 15 || x.Bits < 0 || x.Bits >= 1<<x.Size:
		return wrongItem
	}
	return numberItem
}

// ruleFromRuns reads items by what may stand behind what: sixteen noughts only
// ahead of a number, the ending only as the last and where noughts are left.
func ruleFromRuns(items []impl.Item, n int) ([]int, bool) {
	if n < 0 || n > 64 {
		return nil, false
	}
	var list []int
	for i, x := range items {
		last := i == len(items)-1
		switch kindOfItem(x) {
		case wrongItem:
			return nil, false
		case sixteenItem:
			if last || items[i+1] == ending {
				return nil, false
			}
			list = append(list, make([]int, 16)...)
		case endingItem:
			if !last || len(list) >= n {
				return nil, false
			}
			list = append(list, make([]int, n-len(list))...)
		case numberItem:
			number := x.Bits
			if x.Bits < 1<<(x.Size-1) {
				number = x.Bits + 1 - 1<<x.Size
			}
			list = append(append(list, make([]int, x.Run)...), number)
		}
	}
	if len(list) != n {
		return nil, false
	}
	return list, true
}

// noughtsToTry are how many noughts stand in a row: about each sixteen.
func noughtsToTry() []int {
	return []int{0, 1, 2, 7, 13, 14, 15, 16, 17, 18, 30, 31, 32, 33, 34, 46, 47, 48, 49, 50, 61, 62, 63, 64}
}

// spaced is numbers with so many noughts ahead of each, and rest noughts
// behind all.
func spaced(number, rest int, noughts ...int) []int {
	var list []int
	for _, n := range noughts {
		list = append(append(list, make([]int, n)...), number)
	}
	return append(list, make([]int, rest)...)
}

// listsToTry are lists of 0 to 64 numbers.
func listsToTry() [][]int {
	d := dice(7)
	var all [][]int
	add := func(list []int) {
		if len(list) <= 64 {
			all = append(all, list)
		}
	}
	for n := range 65 {
		add(make([]int, n))
		add(cycled(n, 1))
		add(cycled(n, impl.MaxCoef, -impl.MaxCoef))
		add(cycled(n, 0, -3))
		add(cycled(n, 0, 0, 5, 0))
		for at := range n {
			add(with(make([]int, n), at, 1))
			add(with(cycled(n, -2), at, 0))
		}
	}
	for _, a := range noughtsToTry() {
		for _, b := range noughtsToTry() {
			add(spaced(-1, b, a))
			add(spaced(7, b, 0, a))
			for _, c := range noughtsToTry() {
				add(spaced(300, c, a, b))
			}
		}
	}
	for range 500 {
		n, most := d.below(65), 1+d.below(20)
		list := thrown(&d, n, -impl.MaxCoef, impl.MaxCoef)
		for i := range list {
			if d.below(most) > 0 {
				list[i] = 0
			}
		}
		add(list)
	}
	return all
}

// wrongRunLists are lists of which there are no runs.
func wrongRunLists() [][]int {
	all := [][]int{make([]int, 65), cycled(65, 1), cycled(65, 0, 1), make([]int, 66), cycled(128, 1), make([]int, 4096), cycled(5000, 0, 0, 3)}
	for _, n := range farNumbers() {
		for _, size := range []int{1, 2, 17, 40, 64} {
			for _, at := range []int{0, size / 2, size - 1} {
				all = append(all, with(make([]int, size), at, n), with(cycled(size, 1, 0), at, n))
			}
		}
	}
	return all
}

func TestEachNumberIsGotBack(t *testing.T) {
	for n := -impl.MaxCoef; n <= impl.MaxCoef; n++ {
		class, bits := impl.ClassOf(n), impl.BitsOf(n)
		if class != ruleClass(n) || bits != ruleBits(n) {
			t.Errorf("%d: class %d, bits %d", n, class, bits)
		}
		if back := impl.NumOf(class, bits); back != n {
			t.Errorf("%d of class %d with bits %d came back as %d", n, class, bits, back)
		}
	}
}

func TestClassesAndBitsByHand(t *testing.T) {
	for _, x := range []struct{ n, class, bits int }{
		{0, 0, 0}, {1, 1, 1}, {-1, 1, 0}, {2, 2, 2}, {-2, 2, 1}, {3, 2, 3}, {-3, 2, 0},
		{4, 3, 4}, {-4, 3, 3}, {5, 3, 5}, {-5, 3, 2}, {7, 3, 7}, {-7, 3, 0}, {8, 4, 8}, {-8, 4, 7},
		{16383, 14, 16383}, {-16383, 14, 0}, {16384, 15, 16384}, {-16384, 15, 16383},
		{32766, 15, 32766}, {-32766, 15, 1}, {32767, 15, 32767}, {-32767, 15, 0},
	} {
		if class, bits := impl.ClassOf(x.n), impl.BitsOf(x.n); class != x.class || bits != x.bits {
			t.Errorf("%d: class %d, bits %d", x.n, class, bits)
		}
		if n := impl.NumOf(x.class, x.bits); n != x.n {
			t.Errorf("class %d, bits %d: %d", x.class, x.bits, n)
		}
	}
}

// At each power of two a class begins; below 0 its bits are those of the
// class's other half.
func TestClassesAndBitsAtPowersOfTwo(t *testing.T) {
	for c := 1; c <= 15; c++ {
		low, high := 1<<(c-1), 1<<c-1
		for _, x := range []struct{ n, class, bits int }{
			{low - 1, c - 1, low - 1}, {low, c, low}, {high, c, high},
			{1 - low, c - 1, 0}, {-low, c, low - 1}, {-high, c, 0},
		} {
			if class, bits := impl.ClassOf(x.n), impl.BitsOf(x.n); class != x.class || bits != x.bits {
				t.Errorf("%d: class %d, bits %d", x.n, class, bits)
			}
		}
		if c > 1 {
			for _, x := range []struct{ n, bits int }{{low + 1, low + 1}, {-low - 1, low - 2}} {
				if class, bits := impl.ClassOf(x.n), impl.BitsOf(x.n); class != c || bits != x.bits {
					t.Errorf("%d: class %d, bits %d", x.n, class, bits)
				}
			}
		}
	}
}

func TestNumbersWithoutAClass(t *testing.T) {
	for _, n := range farNumbers() {
		if class, bits := impl.ClassOf(n), impl.BitsOf(n); class != -1 || bits != -1 {
			t.Errorf("%d: class %d, bits %d", n, class, bits)
		}
	}
}

// Each class and bits that can be are those of one number, no two of the same.
func TestEachClassAndBitsHaveANumber(t *testing.T) {
	seen := make([]bool, 2*impl.MaxCoef+1)
	for size := range 16 {
		for bits := range 1 << size {
			n := impl.NumOf(size, bits)
			if ruleClass(n) != size || ruleBits(n) != bits {
				t.Fatalf("class %d, bits %d: %d", size, bits, n)
			}
			if seen[n+impl.MaxCoef] {
				t.Fatalf("%d twice", n)
			}
			seen[n+impl.MaxCoef] = true
		}
	}
	if slices.Contains(seen, false) {
		t.Error("a number has no class and bits")
	}
}

func TestClassesAndBitsWithoutANumber(t *testing.T) {
	wrongSizes := append(farNumbers(), -1, -2, -15, -16, 16, 17, 31, 32, 63, 64, 65, 127, 128, 1<<32+3, -1<<32+3)
	for _, size := range wrongSizes {
		for _, bits := range []int{-1, 0, 1, 2, 5, 7, 16384, 32767, 32768, 65535, math.MaxInt, math.MinInt} {
			if n := impl.NumOf(size, bits); n != 0 {
				t.Errorf("class %d, bits %d: %d", size, bits, n)
			}
		}
	}
	for size := range 16 {
		wrongBits := append(farNumbers(), -1, -2, 1-1<<size, -1<<size, 1<<size, 1<<size+1, 2<<size-1, 2<<size)
		for _, bits := range wrongBits {
			if bits == 0 { // 1 - 2^0 is what class 0 has
				continue
			}
			if n := impl.NumOf(size, bits); n != 0 {
				t.Errorf("class %d, bits %d: %d", size, bits, n)
			}
		}
	}
}

func TestRunsByHand(t *testing.T) {
	five := impl.Item{Size: 3, Bits: 5}
	for _, x := range []struct {
		what string
		list []int
		want []impl.Item
	}{
		{"none", nil, nil},
		{"an empty one", []int{}, nil},
		{"a nought", []int{0}, []impl.Item{{}}},
		{"a number", []int{5}, []impl.Item{five}},
		{"one below 0", []int{-5}, []impl.Item{{Size: 3, Bits: 2}}},
		{"no noughts", []int{5, -5, 1, -1}, []impl.Item{five, {Size: 3, Bits: 2}, {Size: 1, Bits: 1}, {Size: 1}}},
		{"one ahead", []int{0, 5}, []impl.Item{{Run: 1, Size: 3, Bits: 5}}},
		{"one behind", []int{5, 0}, []impl.Item{five, {}}},
		{"between", []int{5, 0, 0, 5}, []impl.Item{five, {Run: 2, Size: 3, Bits: 5}}},
		{"everywhere", []int{0, 5, 0, 0, -1, 0, 0, 0}, []impl.Item{{Run: 1, Size: 3, Bits: 5}, {Run: 2, Size: 1}, {}}},
		{"15 ahead", spaced(5, 0, 15), []impl.Item{{Run: 15, Size: 3, Bits: 5}}},
		{"16 ahead", spaced(5, 0, 16), []impl.Item{sixteen, five}},
		{"17 ahead", spaced(5, 0, 17), []impl.Item{sixteen, {Run: 1, Size: 3, Bits: 5}}},
		{"31 ahead", spaced(5, 0, 31), []impl.Item{sixteen, {Run: 15, Size: 3, Bits: 5}}},
		{"32 ahead", spaced(5, 0, 32), []impl.Item{sixteen, sixteen, five}},
		{"47 ahead", spaced(5, 0, 47), []impl.Item{sixteen, sixteen, {Run: 15, Size: 3, Bits: 5}}},
		{"48 ahead", spaced(5, 0, 48), []impl.Item{sixteen, sixteen, sixteen, five}},
		{"63 ahead", spaced(5, 0, 63), []impl.Item{sixteen, sixteen, sixteen, {Run: 15, Size: 3, Bits: 5}}},
		{"16 between, 16 behind", spaced(5, 16, 0, 16), []impl.Item{five, sixteen, five, {}}},
		{"16 twice", spaced(5, 0, 16, 16), []impl.Item{sixteen, five, sixteen, five}},
		{"at the limits", []int{32767, 0, -32767}, []impl.Item{{Size: 15, Bits: 32767}, {Run: 1, Size: 15}}},
	} {
		if items := impl.RunsOf(x.list); !slices.Equal(items, x.want) {
			t.Errorf("%s: %v", x.what, items)
		}
		if list, ok := impl.FromRuns(x.want, len(x.list)); !ok || !slices.Equal(list, x.list) {
			t.Errorf("%s: came back as %v, %v", x.what, list, ok)
		}
	}
}

// Noughts at the end are one Item with all 0, however many they are.
func TestRunsOfNoughtsAtTheEnd(t *testing.T) {
	for n := 1; n <= 64; n++ {
		if items := impl.RunsOf(make([]int, n)); !slices.Equal(items, []impl.Item{{}}) {
			t.Errorf("%d noughts: %v", n, items)
		}
		list := with(make([]int, n), 0, -1)
		want := []impl.Item{{Size: 1}, {}}[:min(n, 2)]
		if items := impl.RunsOf(list); !slices.Equal(items, want) {
			t.Errorf("a number and %d noughts: %v", n-1, items)
		}
	}
}

func TestListsAreGotBack(t *testing.T) {
	for _, list := range listsToTry() {
		items := impl.RunsOf(list)
		if !slices.Equal(items, ruleRuns(list)) {
			t.Errorf("%v: %v", list, items)
		}
		if back, ok := impl.FromRuns(items, len(list)); !ok || !slices.Equal(back, list) {
			t.Errorf("%v came back as %v, %v", list, back, ok)
		}
	}
}

func TestListsWithoutRuns(t *testing.T) {
	for _, list := range wrongRunLists() {
		if items := impl.RunsOf(list); len(items) != 0 {
			t.Errorf("%v: %v", list, items)
		}
	}
}

// Each number by itself, at each place: what is at a limit and one past it.
func TestRunsAtTheLimits(t *testing.T) {
	for at := range 64 {
		for _, n := range []int{-impl.MaxCoef, 1 - impl.MaxCoef, impl.MaxCoef - 1, impl.MaxCoef} {
			list := with(make([]int, 64), at, n)
			items := impl.RunsOf(list)
			if back, ok := impl.FromRuns(items, 64); len(items) == 0 || !ok || !slices.Equal(back, list) {
				t.Errorf("%d at place %d: %v, %v, %v", n, at, items, back, ok)
			}
		}
		for _, n := range []int{-impl.MaxCoef - 1, impl.MaxCoef + 1} {
			if items := impl.RunsOf(with(make([]int, 64), at, n)); len(items) != 0 {
				t.Errorf("%d at place %d: %v", n, at, items)
			}
		}
	}
	if items := impl.RunsOf(cycled(64, 9)); len(items) != 64 {
		t.Errorf("64 numbers: %v", items)
	}
	if items := impl.RunsOf(cycled(65, 9)); len(items) != 0 {
		t.Errorf("65 numbers: %v", items)
	}
}

// checkFromRuns holds one call against the rule; what is refused leaves
// nothing behind.
func checkFromRuns(t *testing.T, items []impl.Item, n int) {
	t.Helper()
	want, wantOk := ruleFromRuns(items, n)
	list, ok := impl.FromRuns(items, n)
	if ok != wantOk || !slices.Equal(list, want) {
		t.Errorf("%v as %d numbers: %v, %v", items, n, list, ok)
	}
}

func TestFromRunsOfNoList(t *testing.T) {
	one := impl.Item{Size: 1, Bits: 1}
	for _, x := range []struct {
		what  string
		items []impl.Item
		n     int
	}{
		{"no items for a number", nil, 1},
		{"no items for 64", nil, 64},
		{"an item for none", []impl.Item{one}, 0},
		{"the ending for none", []impl.Item{{}}, 0},
		{"too few", []impl.Item{one, one}, 3},
		{"too many", []impl.Item{one, one}, 1},
		{"too many by a run", []impl.Item{{Run: 2, Size: 1}}, 2},
		{"too few by a run", []impl.Item{{Run: 2, Size: 1}}, 4},
		{"too many by sixteen", []impl.Item{sixteen, one}, 16},
		{"sixteen and no room for a number", []impl.Item{one, sixteen, one}, 17},
		{"the ending ahead of a number", []impl.Item{{}, one}, 2},
		{"the ending ahead of a number with room", []impl.Item{{}, one}, 20},
		{"the ending between", []impl.Item{one, {}, one}, 3},
		{"the ending twice", []impl.Item{one, {}, {}}, 3},
		{"the ending twice for many", []impl.Item{{}, {}}, 64},
		{"the ending for no noughts", []impl.Item{one, {}}, 1},
		{"the ending for no noughts behind sixteen", []impl.Item{sixteen, one, {}}, 17},
		{"sixteen at the end", []impl.Item{sixteen}, 16},
		{"sixteen behind a number", []impl.Item{one, sixteen}, 17},
		{"sixteen and room behind", []impl.Item{one, sixteen}, 20},
		{"sixteen and the ending", []impl.Item{sixteen, {}}, 17},
		{"sixteen and the ending for none", []impl.Item{sixteen, {}}, 16},
		{"sixteen twice", []impl.Item{sixteen, sixteen}, 32},
		{"sixteen four times", []impl.Item{sixteen, sixteen, sixteen, sixteen}, 64},
		{"a run and a nought", []impl.Item{{Run: 1}}, 2},
		{"a run and a nought ahead of a number", []impl.Item{{Run: 1}, one}, 3},
		{"fifteen by such an item", []impl.Item{{Run: 14}, one}, 16},
		{"a run of 16", []impl.Item{{Run: 16, Size: 1, Bits: 1}}, 17},
		{"a run of 63", []impl.Item{{Run: 63, Size: 1, Bits: 1}}, 64},
		{"a run of 16 without a number", []impl.Item{{Run: 16}, one}, 18},
		{"a run below 0", []impl.Item{one, {Run: -1, Size: 1, Bits: 1}}, 1},
		{"a run below 0 for as many items", []impl.Item{one, {Run: -1, Size: 1, Bits: 1}}, 2},
		{"a class below 0", []impl.Item{{Size: -1}}, 1},
		{"a class of 16", []impl.Item{{Size: 16, Bits: 32768}}, 1},
		{"bits below 0", []impl.Item{{Size: 1, Bits: -1}}, 1},
		{"bits too great", []impl.Item{{Size: 1, Bits: 2}}, 1},
		{"bits without a class", []impl.Item{{Bits: 1}}, 1},
		{"an ending with bits", []impl.Item{one, {Bits: 1}}, 3},
		{"sixteen with bits", []impl.Item{{Run: 15, Bits: 1}, one}, 17},
		{"sixteen with a class below 0", []impl.Item{{Run: 15, Size: -1}, one}, 17},
		{"numbers below 0", nil, -1},
		{"the ending of numbers below 0", []impl.Item{{}}, -1},
		{"65 numbers", slices.Repeat([]impl.Item{one}, 65), 65},
		{"65 noughts", []impl.Item{{}}, 65},
		{"more than 64 numbers", nil, math.MaxInt},
		{"fewer than any", nil, math.MinInt},
		{"the ending of very many", []impl.Item{{}}, 1 << 32},
		{"the ending of as many as 2^32 and 1", []impl.Item{{}}, 1<<32 + 1},
	} {
		if list, ok := impl.FromRuns(x.items, x.n); ok || len(list) != 0 {
			t.Errorf("%s: %v, %v", x.what, list, ok)
		}
		if _, ok := ruleFromRuns(x.items, x.n); ok {
			t.Errorf("%s: the rule takes it", x.what)
		}
	}
}

// All rows of a few items out of all kinds, for all counts of numbers.
func TestFromRunsOfAllShortRows(t *testing.T) {
	kinds := []impl.Item{
		ending, sixteen, itemFor(0, 1), itemFor(0, -2), itemFor(1, -1), itemFor(14, 3), itemFor(15, 1),
		{Run: 1}, {Run: 14}, {Run: 16}, {Run: 16, Size: 1}, {Run: -1, Size: 1}, {Size: 1, Bits: 2}, {Bits: 1},
	}
	var try func(items []impl.Item, left int)
	try = func(items []impl.Item, left int) {
		for n := -1; n <= 65; n++ {
			checkFromRuns(t, items, n)
		}
		if left == 0 {
			return
		}
		for _, x := range kinds {
			try(append(slices.Clone(items), x), left-1)
		}
	}
	try(nil, 4)
}

// itemsBeside are rows that differ from this one by one item or one field.
func itemsBeside(items []impl.Item) [][]impl.Item {
	var all [][]impl.Item
	for at := range len(items) + 1 {
		for _, x := range []impl.Item{ending, sixteen, itemFor(0, 1), itemFor(15, -3), {Run: 3}} {
			all = append(all, slices.Insert(slices.Clone(items), at, x))
		}
	}
	for at, x := range items {
		all = append(all, slices.Delete(slices.Clone(items), at, at+1))
		if at > 0 {
			turned := slices.Clone(items)
			turned[at-1], turned[at] = turned[at], turned[at-1]
			all = append(all, turned)
		}
		for _, by := range []int{-16, -1, 1, 16, 1 << 32, math.MaxInt, math.MinInt} {
			for _, other := range []impl.Item{
				{Run: x.Run + by, Size: x.Size, Bits: x.Bits},
				{Run: x.Run, Size: x.Size + by, Bits: x.Bits},
				{Run: x.Run, Size: x.Size, Bits: x.Bits + by},
				{Run: x.Run, Size: x.Size, Bits: x.Bits + by<<x.Size},
			} {
				changed := slices.Clone(items)
				changed[at] = other
				all = append(all, changed)
			}
		}
	}
	return all
}

func TestFromRunsBesideWhatIsRight(t *testing.T) {
	d := dice(77)
	lists := listsToTry()
	for range 150 {
		list := lists[d.below(len(lists))]
		for _, items := range itemsBeside(ruleRuns(list)) {
			for _, n := range []int{len(list) - 16, len(list) - 1, len(list), len(list) + 1, len(list) + 16} {
				checkFromRuns(t, items, n)
			}
		}
	}
}

func TestFromRunsOfOtherCounts(t *testing.T) {
	for i, list := range listsToTry() {
		if i%7 != 0 {
			continue
		}
		items := impl.RunsOf(list)
		for n := -2; n <= 67; n++ {
			checkFromRuns(t, items, n)
		}
	}
}

// A list whose end is not known by its items ends even so.
func TestFromRunsOfVeryManyItems(t *testing.T) {
	for _, x := range []impl.Item{ending, sixteen, itemFor(0, 1), itemFor(15, 1), {Run: -1}, {Run: math.MaxInt}} {
		items := slices.Repeat([]impl.Item{x}, 100000)
		for _, n := range []int{0, 1, 64, 65} {
			if list, ok := impl.FromRuns(items, n); ok || len(list) != 0 {
				t.Errorf("%v, again and again, as %d numbers: %v, %v", x, n, list, ok)
			}
		}
	}
}

func TestRunsLeaveArgumentsAlone(t *testing.T) {
	for i, list := range append(listsToTry(), wrongRunLists()...) {
		if i%11 != 0 {
			continue
		}
		g := guard(list, 1, 0, 2, impl.MaxCoef+1)
		items := impl.RunsOf(g.list)
		g.check(t, "RunsOf")
		if !slices.Equal(items, impl.RunsOf(slices.Clip(slices.Clone(list)))) {
			t.Errorf("RunsOf read what lies behind %v", list)
		}
		h := guard(items, impl.Item{Size: 1}, impl.Item{Run: 15}, impl.Item{Run: 99})
		for _, n := range []int{len(list), len(list) + 1, len(list) + 17, 65, -1} {
			back, ok := impl.FromRuns(h.list, n)
			h.check(t, "FromRuns")
			if want, wantOk := ruleFromRuns(items, n); ok != wantOk || !slices.Equal(back, want) {
				t.Errorf("FromRuns read what lies behind %v", items)
			}
		}
	}
}

func TestRunsAreNewMemory(t *testing.T) {
	for i, list := range listsToTry() {
		if i%11 != 0 {
			continue
		}
		was := slices.Clone(list)
		items := impl.RunsOf(list)
		right := slices.Clone(items)
		back, _ := impl.FromRuns(items, len(list))
		scribble(back, 12345)
		if !slices.Equal(list, was) || !slices.Equal(items, right) {
			t.Errorf("the numbers of %v share memory", right)
		}
		again, ok := impl.FromRuns(items, len(list))
		if !ok || !slices.Equal(again, was) {
			t.Errorf("%v: another time %v, %v", right, again, ok)
		}
		scribble(items, impl.Item{Run: 7, Size: 7, Bits: 7})
		if !slices.Equal(list, was) || !slices.Equal(again, was) || !slices.Equal(impl.RunsOf(list), right) {
			t.Errorf("the runs of %v share memory", was)
		}
	}
}
