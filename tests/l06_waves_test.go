package tests

import (
	"math"
	"math/bits"
	"slices"
	"testing"

	"loop.example/g00139/impl"
)

// scale is what the document divides the sums of waves by.
const scale = 16777216

func samplesRule(list []int) bool { return numbersOk(list, -2048, 2047) }

// ruleBasis is the chapter's words, place by place.
func ruleBasis() []int {
	w := []int{2048, 2009, 1892, 1703, 1448, 1138, 784, 400, 0}
	list := make([]int, 64)
	for u := range 8 {
		for x := range 8 {
			n, m := 1448, (2*x+1)*u%32
			switch {
			case u == 0:
			case m <= 8:
				n = w[m]
			case m <= 16:
				n = -w[16-m]
			case m <= 24:
				n = -w[m-16]
			default:
				n = w[32-m]
			}
			list[8*u+x] = n
		}
	}
	return list
}

// forwardWeights are what the samples are multiplied with for the number at
// row u and column v of Forward.
func forwardWeights(u, v int) []int {
	basis, list := ruleBasis(), make([]int, 64)
	for y := range 8 {
		for x := range 8 {
			list[8*y+x] = basis[8*u+y] * basis[8*v+x]
		}
	}
	return list
}

// inverseWeights are what the numbers are multiplied with for the sample at
// row y and column x of Inverse.
func inverseWeights(y, x int) []int {
	basis, list := ruleBasis(), make([]int, 64)
	for u := range 8 {
		for v := range 8 {
			list[8*u+v] = basis[8*u+y] * basis[8*v+x]
		}
	}
	return list
}

// allWeights are those of all 64 places.
func allWeights(weights func(row, col int) []int) [][]int {
	all := make([][]int, 64)
	for i := range all {
		all[i] = weights(i/8, i%8)
	}
	return all
}

func wholeSum(nums, weights []int) int {
	sum := 0
	for i, n := range nums {
		sum += n * weights[i]
	}
	return sum
}

// ruleSums are the whole sums, each rounded once.
func ruleSums(block []int, weights [][]int) []int {
	list := make([]int, 64)
	for i, w := range weights {
		list[i] = ruleRounded(wholeSum(block, w), scale)
	}
	return list
}

func ruleCut(list []int) []int {
	list = slices.Clone(list)
	for i, n := range list {
		list[i] = max(-2048, min(2047, n))
	}
	return list
}

// bySign is high where a weight is above 0 and low where it is below: of all
// blocks between the two that with the greatest sum.
func bySign(weights []int, low, high int) []int {
	list := make([]int, 64)
	for i, w := range weights {
		switch {
		case w > 0:
			list[i] = high
		case w < 0:
			list[i] = low
		}
	}
	return list
}

// awayWeights tell what each sample does to the one at a place that has
// become waves and a sample again, beyond its being there: what would be 0 if
// the basis were not made of whole numbers.
func awayWeights(y, x int) []int {
	basis, list := ruleBasis(), make([]int, 64)
	both := func(a, b int) int {
		sum := 0
		for u := range 8 {
			sum += basis[8*u+a] * basis[8*u+b]
		}
		return sum
	}
	for i := range list {
		list[i] = both(y, i/8) * both(x, i%8)
	}
	list[8*y+x] -= scale * scale
	return list
}

// samplesToTry are blocks of samples at the limits and between them.
func samplesToTry() [][]int {
	d := dice(6)
	all := [][]int{
		flat(0), flat(1), flat(-1), flat(100), flat(-2048), flat(-2047), flat(2046), flat(2047),
		cycled(64, -2048, 2047), cycled(64, 2047, -2048, 0), cycled(64, cycled(16, -2048, 2047)[:15]...),
		cycled(64, append(cycled(8, 2047), cycled(8, -2048)...)...),
	}
	rising := make([]int, 64)
	for i := range rising {
		rising[i] = 65*i - 2048
	}
	all = append(all, rising)
	for range 40 {
		limits := thrown(&d, 64, 0, 1)
		for i, n := range limits {
			limits[i] = 4095*n - 2048
		}
		all = append(all, limits, thrown(&d, 64, -2048, 2047), thrown(&d, 64, -128, 127), thrown(&d, 64, -3, 3))
	}
	for i := range 64 {
		for _, weights := range [][]int{forwardWeights(i/8, i%8), awayWeights(i/8, i%8)} {
			all = append(all, bySign(weights, -2048, 2047), bySign(weights, 2047, -2048))
		}
	}
	return all
}

// onesToTry are flat blocks of samples with another one at one place.
func onesToTry() [][]int {
	var all [][]int
	for at := range 64 {
		for _, n := range []int{-2048, 0, 1000, 2047} {
			for _, other := range []int{-2048, -2047, -1, 0, 1, 127, 999, 2046, 2047} {
				all = append(all, with(flat(n), at, other))
			}
		}
	}
	return all
}

// wavesToTry are blocks for Inverse, at the limits and between them.
func wavesToTry() [][]int {
	d := dice(66)
	all := blocksToTry()
	for i := range 64 {
		weights := inverseWeights(i/8, i%8)
		all = append(all, bySign(weights, -impl.MaxCoef, impl.MaxCoef), bySign(weights, impl.MaxCoef, -impl.MaxCoef))
		all = append(all, bySign(weights, -9, 9), bySign(weights, 200, -200))
		for _, n := range []int{-impl.MaxCoef, -5000, -7, -1, 1, 3, 1000, 8191, impl.MaxCoef} {
			all = append(all, with(flat(0), i, n))
		}
	}
	for range 60 {
		all = append(all, thrown(&d, 64, -600, 600), thrown(&d, 64, -2, 2))
	}
	return all
}

// wrongSamples are lists that are no samples, blocks among them.
func wrongSamples() [][]int {
	all := append(wrongLists(), flat(2048), flat(-2049), flat(impl.MaxCoef), flat(-impl.MaxCoef))
	for at := range 64 {
		for _, n := range []int{-2049, 2048, impl.MaxCoef} {
			all = append(all, with(flat(5), at, n))
		}
	}
	return all
}

func TestSampleLimit(t *testing.T) {
	if impl.MaxSample != 2048 {
		t.Error(impl.MaxSample)
	}
}

// Each sample by itself, at each place: what is at a limit and one past it.
func TestSamplesOk(t *testing.T) {
	for at := range 64 {
		for _, x := range []struct {
			n  int
			ok bool
		}{
			{-impl.MaxSample - 1, false}, {-impl.MaxSample, true}, {-impl.MaxSample + 1, true},
			{-1, true}, {0, true}, {1, true},
			{impl.MaxSample - 2, true}, {impl.MaxSample - 1, true}, {impl.MaxSample, false}, {impl.MaxSample + 1, false},
			{impl.MaxCoef, false}, {-impl.MaxCoef, false}, {1 << 32, false}, {-1 << 32, false}, {1<<32 + 1, false},
			{math.MinInt, false}, {math.MaxInt, false},
		} {
			block := with(flat(1), at, x.n)
			if ok := impl.SamplesOk(block); ok != x.ok {
				t.Errorf("%d at place %d: %v", x.n, at, ok)
			}
			if forward := impl.Forward(block); (len(forward) == 64) != x.ok || (len(forward) == 0) == x.ok {
				t.Errorf("Forward with %d at place %d: %v", x.n, at, forward)
			}
		}
	}
}

func TestSamplesOkByRule(t *testing.T) {
	for n := range 200 {
		for _, list := range [][]int{make([]int, n), cycled(n, 2047, -2048)} {
			if ok := impl.SamplesOk(list); ok != (n == 64) {
				t.Errorf("%d samples: %v", n, ok)
			}
		}
	}
	for _, lists := range [][][]int{samplesToTry(), onesToTry(), wavesToTry(), wrongSamples()} {
		for _, list := range lists {
			if ok := impl.SamplesOk(list); ok != samplesRule(list) {
				t.Errorf("%v: %v", list, ok)
			}
		}
	}
}

func TestBasis(t *testing.T) {
	byHand := []int{
		1448, 1448, 1448, 1448, 1448, 1448, 1448, 1448,
		2009, 1703, 1138, 400, -400, -1138, -1703, -2009,
		1892, 784, -784, -1892, -1892, -784, 784, 1892,
		1703, -400, -2009, -1138, 1138, 2009, 400, -1703,
		1448, -1448, -1448, 1448, 1448, -1448, -1448, 1448,
		1138, -2009, 400, 1703, -1703, -400, 2009, -1138,
		784, -1892, 1892, -784, -784, 1892, -1892, 784,
		400, -1138, 1703, -2009, 2009, -1703, 1138, -400,
	}
	basis := impl.Basis()
	if !slices.Equal(basis, byHand) || !slices.Equal(basis, ruleBasis()) {
		t.Error(basis)
	}
}

func TestForwardByHand(t *testing.T) {
	for _, x := range []struct{ n, first int }{
		{0, 0}, {1, 8}, {-1, -8}, {100, 800}, {-100, -800}, {2047, 16373}, {2046, 16365}, {-2047, -16373},
		// -16380 and a half: up, not away from 0.
		{-2048, -16380},
	} {
		if got := impl.Forward(flat(x.n)); !slices.Equal(got, with(flat(0), 0, x.first)) {
			t.Errorf("flat %d: %v", x.n, got)
		}
	}
	for _, x := range []struct {
		at, n int
		begin []int
	}{
		{0, 1000, []int{125, 173, 163, 147, 125, 98, 68, 35}},
		{0, -1000, []int{-125, -173, -163, -147, -125, -98, -68, -35}},
		{63, 1000, []int{125, -173, 163, -147, 125, -98, 68, -35}},
		{0, 1, []int{0, 0, 0, 0, 0, 0, 0, 0}},
		{0, 4, []int{0, 1, 1, 1, 0, 0, 0, 0}},
		{0, -4, []int{0, -1, -1, -1, 0, 0, 0, 0}},
	} {
		if got := impl.Forward(with(flat(0), x.at, x.n)); len(got) != 64 || !slices.Equal(got[:8], x.begin) {
			t.Errorf("%d at place %d: %v", x.n, x.at, got)
		}
	}
}

// A row and a column that differ: what is told of one is not told of the
// other.
func TestForwardOfRowAndColumn(t *testing.T) {
	row, column := flat(0), flat(0)
	for i := range 8 {
		row[i], column[8*i] = 800, 800
	}
	overRow, overColumn := impl.Forward(row), impl.Forward(column)
	if len(overRow) != 64 || len(overColumn) != 64 {
		t.Fatal(overRow, overColumn)
	}
	want := []int{800, 1110, 1045, 941, 800, 629, 433, 221}
	for i := range 64 {
		down, across := 0, 0
		if i%8 == 0 {
			down = want[i/8]
		}
		if i/8 == 0 {
			across = want[i%8]
		}
		if overRow[i] != down || overColumn[i] != across {
			t.Errorf("place %d: %d and %d, not %d and %d", i, overRow[i], overColumn[i], down, across)
		}
	}
}

func TestForwardByRule(t *testing.T) {
	weights := allWeights(forwardWeights)
	for _, block := range append(samplesToTry(), onesToTry()...) {
		if got, want := impl.Forward(block), ruleSums(block, weights); !slices.Equal(got, want) {
			t.Fatalf("%v: %v, and not %v", block, got, want)
		}
	}
}

func TestForwardIsBlock(t *testing.T) {
	for _, block := range append(samplesToTry(), onesToTry()...) {
		if got := impl.Forward(block); !impl.BlockOk(got) {
			t.Fatalf("%v: %v", block, got)
		}
	}
}

// With the first number alone all samples are alike.
func TestInverseByHand(t *testing.T) {
	for _, x := range []struct{ first, n int }{
		{0, 0}, {1, 0}, {-1, 0}, {3, 0}, {-3, 0}, {4, 0}, {-4, 0}, {5, 1}, {-5, -1}, {800, 100}, {-800, -100},
		{16375, 2046}, {16376, 2047}, {16383, 2047}, {16384, 2047}, {16385, 2047}, {impl.MaxCoef, 2047},
		{-16383, -2047}, {-16384, -2048}, {-16391, -2048}, {-16392, -2048}, {-16393, -2048}, {-impl.MaxCoef, -2048},
	} {
		if got := impl.Inverse(with(flat(0), 0, x.first)); !slices.Equal(got, flat(x.n)) {
			t.Errorf("first number %d: %v", x.first, got)
		}
	}
	for _, x := range []struct {
		at, n int
		begin []int
	}{
		{1, 1000, []int{173, 147, 98, 35, -35, -98, -147, -173}},
		{8, 1000, []int{173, 173, 173, 173, 173, 173, 173, 173}},
		{63, 1000, []int{10, -27, 41, -48, 48, -41, 27, -10}},
		{1, impl.MaxCoef, []int{2047, 2047, 2047, 1131, -1131, -2048, -2048, -2048}},
		{1, -impl.MaxCoef, []int{-2048, -2048, -2048, -1131, 1131, 2047, 2047, 2047}},
	} {
		if got := impl.Inverse(with(flat(0), x.at, x.n)); len(got) != 64 || !slices.Equal(got[:8], x.begin) {
			t.Errorf("%d at place %d: %v", x.n, x.at, got)
		}
	}
}

func TestInverseByRule(t *testing.T) {
	weights := allWeights(inverseWeights)
	below, above, between := 0, 0, 0
	for _, block := range wavesToTry() {
		sums := ruleSums(block, weights)
		if got, want := impl.Inverse(block), ruleCut(sums); !slices.Equal(got, want) {
			t.Fatalf("%v: %v, and not %v", block, got, want)
		}
		for _, n := range sums {
			switch {
			case n < -2048:
				below++
			case n > 2047:
				above++
			default:
				between++
			}
		}
	}
	if below < 100 || above < 100 || between < 100 {
		t.Error("the blocks say too little", below, above, between)
	}
}

// Whatever comes back from waves can go there again.
func TestInverseIsSamples(t *testing.T) {
	for _, block := range wavesToTry() {
		if got := impl.Inverse(block); !impl.SamplesOk(got) {
			t.Fatalf("%v: %v", block, got)
		}
	}
}

// oddInverse is the number that gives 1 with n, which is odd, in the lowest
// bits.
func oddInverse(n int) int {
	inverse := n
	for range 6 {
		inverse *= 2 - n*inverse
	}
	return inverse
}

// halfway looks for 64 numbers whose sum is a half beyond a whole number of
// scales: all but one are thrown, no further from 0 than spread, and that one
// is worked out; none if it comes to lie outside low .. high.
func halfway(d *dice, weights []int, spread, low, high int) []int {
	at := 0
	for i, w := range weights {
		if bits.TrailingZeros(uint(w)) < bits.TrailingZeros(uint(weights[at])) {
			at = i
		}
	}
	even := bits.TrailingZeros(uint(weights[at]))
	nums := with(thrown(d, 64, -spread, spread), at, 0)
	room := scale >> even
	need := (scale/2 - wholeSum(nums, weights)) >> even
	n := need * oddInverse(weights[at]>>even) & (room - 1)
	if n > high {
		n -= room
	}
	if n < low || n > high {
		return nil
	}
	return with(nums, at, n)
}

// checkHalves asks at each place for some sums that are halves, on both sides
// of 0: they go up.
func checkHalves(t *testing.T, weights [][]int, ask func(block []int) []int, skip func(place int) bool, throw func(weights []int) []int) {
	t.Helper()
	for place, w := range weights {
		below, above := 0, 0
		for tries := 0; !skip(place) && (below < 2 || above < 2); tries++ {
			if tries > 1000000 {
				t.Fatalf("place %d: no halves found", place)
			}
			nums := throw(w)
			if nums == nil {
				continue
			}
			sum := wholeSum(nums, w)
			if (sum+scale/2)%scale != 0 {
				t.Fatalf("place %d: %d is no half", place, sum)
			}
			want := (sum + scale/2) / scale
			if want < -2048 || want > 2047 {
				continue
			}
			if got := ask(nums); len(got) != 64 || got[place] != want {
				t.Fatalf("place %d of %v: %v, and not %d", place, nums, got, want)
			}
			if sum < 0 {
				below++
			} else {
				above++
			}
		}
	}
}

func TestForwardOfHalves(t *testing.T) {
	d := dice(606)
	// Of these all weights are the same but for the sign, and no block but the
	// flat one of -2048 has a half.
	skip := func(place int) bool { return place/8%4 == 0 && place%8%4 == 0 }
	throw := func(w []int) []int { return halfway(&d, w, 2047, -2048, 2047) }
	checkHalves(t, allWeights(forwardWeights), impl.Forward, skip, throw)
}

func TestInverseOfHalves(t *testing.T) {
	d := dice(6006)
	skip := func(place int) bool { return false }
	throw := func(w []int) []int { return halfway(&d, w, 40, -8000, 8000) }
	checkHalves(t, allWeights(inverseWeights), impl.Inverse, skip, throw)
}

// checkThereAndBack asks for promise 6, of the program's own answers alone.
func checkThereAndBack(t *testing.T, block []int) {
	t.Helper()
	waves := impl.Forward(block)
	back := impl.Inverse(waves)
	if !impl.BlockOk(waves) || !impl.SamplesOk(back) {
		t.Fatalf("%v: %v and back %v", block, waves, back)
	}
	for i, n := range block {
		if away := max(back[i]-n, n-back[i]); away > 16 {
			t.Fatalf("%v: %d at place %d comes back as %d", block, n, i, back[i])
		}
	}
}

func TestSamplesThereAndBack(t *testing.T) {
	for _, block := range append(samplesToTry(), onesToTry()...) {
		checkThereAndBack(t, block)
	}
	d := dice(666)
	for range 2000 {
		far := 1 + d.below(2047)
		checkThereAndBack(t, thrown(&d, 64, -far, far))
	}
}

func TestFlatBlocks(t *testing.T) {
	for n := -impl.MaxSample; n < impl.MaxSample; n++ {
		waves := impl.Forward(flat(n))
		if len(waves) != 64 || !slices.Equal(waves[1:], make([]int, 63)) {
			t.Fatalf("flat %d: %v", n, waves)
		}
		if want := ruleRounded(64*1448*1448*n, scale); waves[0] != want {
			t.Fatalf("flat %d: %d, and not %d", n, waves[0], want)
		}
		checkThereAndBack(t, flat(n))
	}
}

func TestWavesOfOthers(t *testing.T) {
	for _, list := range wrongSamples() {
		if got := impl.Forward(list); len(got) != 0 || impl.SamplesOk(list) {
			t.Errorf("Forward %v: %v", list, got)
		}
	}
	for _, list := range wrongLists() {
		if got := impl.Inverse(list); len(got) != 0 {
			t.Errorf("Inverse %v: %v", list, got)
		}
	}
	for n := range 200 {
		list := cycled(n, 3, -2)
		if a, b := impl.Forward(list), impl.Inverse(list); n != 64 && (len(a) != 0 || len(b) != 0) {
			t.Errorf("%d numbers: %v and %v", n, a, b)
		}
	}
}

// Each number by itself, at each place: what is at a limit and one past it.
func TestInverseLimits(t *testing.T) {
	for at := range 64 {
		for _, x := range []struct{ n, count int }{
			{-impl.MaxCoef - 1, 0}, {-impl.MaxCoef, 64}, {-impl.MaxSample - 1, 64}, {-impl.MaxSample, 64}, {0, 64},
			{impl.MaxSample - 1, 64}, {impl.MaxSample, 64}, {impl.MaxCoef, 64}, {impl.MaxCoef + 1, 0},
		} {
			if got := impl.Inverse(with(flat(1), at, x.n)); len(got) != x.count {
				t.Errorf("%d at place %d: %v", x.n, at, got)
			}
		}
	}
}

func TestWavesLeaveArguments(t *testing.T) {
	for _, lists := range [][][]int{samplesToTry(), wavesToTry(), wrongSamples()} {
		for _, list := range lists {
			for _, behind := range [][]int{{1, 1, 1}, {math.MinInt, 5}, flat(1)} {
				g := guard(list, behind...)
				if impl.SamplesOk(g.list) != samplesRule(list) ||
					!slices.Equal(impl.Forward(g.list), impl.Forward(list)) ||
					!slices.Equal(impl.Inverse(g.list), impl.Inverse(list)) {
					t.Fatalf("%v: another answer with other room behind the list", list)
				}
				g.check(t, "block")
			}
		}
	}
}

// Each answer is asked for twice, one of them and the argument written over.
func TestWavesAreNewMemory(t *testing.T) {
	for what, ask := range map[string]func(block []int) []int{
		"Basis":   func(block []int) []int { return impl.Basis() },
		"Forward": impl.Forward,
		"Inverse": impl.Inverse,
	} {
		for _, block := range [][]int{flat(0), flat(2047), samplesToTry()[14], samplesToTry()[15]} {
			own := slices.Clone(block)
			a, b := ask(own), ask(own)
			was := slices.Clone(a)
			if len(a) != 64 || !slices.Equal(a, b) {
				t.Errorf("%s: %v and %v", what, a, b)
			}
			scribble(b, 7)
			scribble(own, 8)
			if !slices.Equal(a, was) || !slices.Equal(ask(block), was) {
				t.Errorf("%s: the answer shares memory with the argument or with another answer", what)
			}
		}
	}
}
