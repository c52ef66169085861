package tests

import (
	"bytes"
	"slices"
	"strconv"
	"strings"
	"testing"

	"loop.example/g00139/impl"
)

// ruleNumBins is BinsOf by the chapter's words, by the digits of a number.
func ruleNumBins(n, base int) []impl.Bin {
	if n == 0 {
		return []impl.Bin{{Ctx: base, Bit: 1}}
	}
	digits, minus := strings.CutPrefix(strconv.FormatInt(int64(n), 2), "-")
	bins := []impl.Bin{{Ctx: base}, {Ctx: base + 1}}
	if minus {
		bins[1].Bit = 1
	}
	class := strings.Repeat("1", len(digits)-1)
	if len(digits) < 15 {
		class += "0"
	}
	for i, digit := range class {
		bins = append(bins, impl.Bin{Ctx: base + 2 + i, Bit: int(digit - '0')})
	}
	for _, digit := range digits[1:] {
		bins = append(bins, impl.Bin{Ctx: base + 18, Bit: int(digit - '0')})
	}
	return bins
}

func ruleListBins(list []int, base int) []impl.Bin {
	var bins []impl.Bin
	for _, n := range list {
		bins = append(bins, ruleNumBins(n, base)...)
	}
	return bins
}

// ruleReadNums asks for one more context at a time, of all bits anew: it is for
// few numbers.
func ruleReadNums(b []byte, n, base int) []int {
	var ctxs []int
	ask := func(ctx int) int {
		ctxs = append(ctxs, base+ctx)
		bits, _ := ruleDecode(b, ctxs)
		return bits[len(bits)-1]
	}
	list := make([]int, n)
	for i := range list {
		if ask(0) == 1 {
			continue
		}
		sign := 1 - 2*ask(1)
		class := 1
		for class < 15 && ask(class+1) == 1 {
			class++
		}
		digits := "1"
		for len(digits) < class {
			digits += strconv.Itoa(ask(18))
		}
		level, _ := strconv.ParseInt(digits, 2, 64)
		list[i] = sign * int(level)
	}
	return list
}

// checkNums holds what is read of bytes, whoever made them, against the rule:
// its bins, decoded from these bytes, have the bits that they should have.
func checkNums(t *testing.T, b []byte, n, base int) []int {
	t.Helper()
	list := impl.ReadNums(b, n, base)
	if len(list) != n || n > 0 && !between(-impl.MaxCoef, impl.MaxCoef, list...) {
		t.Errorf("%d numbers at %d of %v: %v", n, base, b, list)
		return list
	}
	ctxs, bits := ctxsAndBits(ruleListBins(list, base))
	if want, _ := ruleDecode(b, ctxs); !slices.Equal(bits, want) {
		t.Errorf("%d numbers at %d of %v: %v has other bins", n, base, b, list)
	}
	return list
}

// checkNumsBack holds a list's bins against the rule, and reads it back.
func checkNumsBack(t *testing.T, list []int, base int) {
	t.Helper()
	bins := impl.ListBins(list, base)
	if !slices.Equal(bins, ruleListBins(list, base)) {
		t.Errorf("%v at %d: %v", list, base, bins)
	}
	b := impl.EncodeBins(bins)
	for _, behind := range behindToTry() {
		if back := impl.ReadNums(slices.Concat(b, behind), len(list), base); !slices.Equal(back, list) {
			t.Errorf("%v at %d, and %v behind: came back as %v", list, base, behind, back)
		}
	}
}

// basesToTry are some of all bases, the least and the greatest among them.
func basesToTry() []int { return []int{0, 1, 2, 7, 18, 19, 20, 40, 100, 255, 256, 340, 378, 379, 380} }

// numbersToTry are 0, and of each class the least and the greatest numbers, and
// some between, of both signs.
func numbersToTry() []int {
	list := []int{0}
	for class := 1; class <= 15; class++ {
		least, most := 1<<(class-1), 1<<class-1
		for _, n := range []int{least, least + 1, (least + most) / 2, 3 * most / 4, most - 1, most} {
			if ruleClass(n) == class {
				list = append(list, n, -n)
			}
		}
	}
	return list
}

// smallAndGreat is n numbers of classes that are thrown.
func smallAndGreat(d *dice, n int) []int {
	list := make([]int, n)
	for i := range list {
		most := 1<<d.below(16) - 1
		list[i] = d.below(2*most+1) - most
	}
	return list
}

// numListsToTry are lists that ListBins takes.
func numListsToTry() [][]int {
	d := dice(10)
	all := [][]int{nil, {}, {0}, {1}, {-1}, {impl.MaxCoef}, {-impl.MaxCoef}, numbersToTry()}
	for _, n := range []int{2, 3, 5, 17, 64, 400} {
		all = append(all, make([]int, n), alike(n, 1), alike(n, -1), alike(n, impl.MaxCoef), alike(n, -impl.MaxCoef), cycled(n, -impl.MaxCoef, impl.MaxCoef))
		all = append(all, thrown(&d, n, -1, 1), thrown(&d, n, -9, 9), thrown(&d, n, -impl.MaxCoef, impl.MaxCoef), thrown(&d, n, 16384, impl.MaxCoef), smallAndGreat(&d, n))
		all = append(all, cycled(n, 0, 0, 0, 7), cycled(n, 0, -impl.MaxCoef), cycled(n, 16383, -16384), cycled(n, numbersToTry()...))
	}
	return all
}

func TestNumberBinsByHand(t *testing.T) {
	ones := func(ctx, n int) []impl.Bin { return binsFor(steps(ctx, ctx+n-1), alike(n, 1)) }
	for _, x := range []struct {
		n, base int
		want    []impl.Bin
	}{
		{0, 0, []impl.Bin{{Ctx: 0, Bit: 1}}},
		{0, 380, []impl.Bin{{Ctx: 380, Bit: 1}}},
		{1, 0, []impl.Bin{{Ctx: 0}, {Ctx: 1}, {Ctx: 2}}},
		{-1, 380, []impl.Bin{{Ctx: 380}, {Ctx: 381, Bit: 1}, {Ctx: 382}}},
		{2, 0, []impl.Bin{{Ctx: 0}, {Ctx: 1}, {Ctx: 2, Bit: 1}, {Ctx: 3}, {Ctx: 18}}},
		{3, 0, []impl.Bin{{Ctx: 0}, {Ctx: 1}, {Ctx: 2, Bit: 1}, {Ctx: 3}, {Ctx: 18, Bit: 1}}},
		{-4, 20, []impl.Bin{{Ctx: 20}, {Ctx: 21, Bit: 1}, {Ctx: 22, Bit: 1}, {Ctx: 23, Bit: 1}, {Ctx: 24}, {Ctx: 38}, {Ctx: 38}}},
		{-5, 20, []impl.Bin{{Ctx: 20}, {Ctx: 21, Bit: 1}, {Ctx: 22, Bit: 1}, {Ctx: 23, Bit: 1}, {Ctx: 24}, {Ctx: 38}, {Ctx: 38, Bit: 1}}},
		{6, 20, []impl.Bin{{Ctx: 20}, {Ctx: 21}, {Ctx: 22, Bit: 1}, {Ctx: 23, Bit: 1}, {Ctx: 24}, {Ctx: 38, Bit: 1}, {Ctx: 38}}},
		{8192, 5, slices.Concat([]impl.Bin{{Ctx: 5}, {Ctx: 6}}, ones(7, 13), []impl.Bin{{Ctx: 20}}, inOne(23, alike(13, 0)...))},
		{-16383, 0, slices.Concat([]impl.Bin{{Ctx: 0}, {Ctx: 1, Bit: 1}}, ones(2, 13), []impl.Bin{{Ctx: 15}}, inOne(18, alike(13, 1)...))},
		{16384, 0, slices.Concat([]impl.Bin{{Ctx: 0}, {Ctx: 1}}, ones(2, 14), inOne(18, alike(14, 0)...))},
		{16385, 380, slices.Concat([]impl.Bin{{Ctx: 380}, {Ctx: 381}}, ones(382, 14), inOne(398, append(alike(13, 0), 1)...))},
		{-24576, 380, slices.Concat([]impl.Bin{{Ctx: 380}, {Ctx: 381, Bit: 1}}, ones(382, 14), inOne(398, append([]int{1}, alike(13, 0)...)...))},
		{impl.MaxCoef, 380, slices.Concat([]impl.Bin{{Ctx: 380}, {Ctx: 381}}, ones(382, 14), inOne(398, alike(14, 1)...))},
		{-impl.MaxCoef, 0, slices.Concat([]impl.Bin{{Ctx: 0}, {Ctx: 1, Bit: 1}}, ones(2, 14), inOne(18, alike(14, 1)...))},
	} {
		if bins := impl.BinsOf(x.n, x.base); !slices.Equal(bins, x.want) {
			t.Errorf("%d at %d: %v", x.n, x.base, bins)
		}
		checkNumsBack(t, []int{x.n}, x.base)
	}
}

func TestBinsOfEachNumber(t *testing.T) {
	for n := -impl.MaxCoef; n <= impl.MaxCoef; n++ {
		for _, base := range []int{0, 380, (n + impl.MaxCoef) % 381} {
			if bins := impl.BinsOf(n, base); !slices.Equal(bins, ruleNumBins(n, base)) {
				t.Errorf("%d at %d: %v", n, base, bins)
			}
		}
	}
}

func TestBinsAtEachBase(t *testing.T) {
	for base := range 381 {
		for _, n := range numbersToTry() {
			if bins := impl.BinsOf(n, base); !slices.Equal(bins, ruleNumBins(n, base)) {
				t.Errorf("%d at %d: %v", n, base, bins)
			}
		}
		checkNumsBack(t, numbersToTry(), base)
	}
}

// How many bins there are, class by class.
func TestHowManyBinsANumberHas(t *testing.T) {
	for n := -impl.MaxCoef; n <= impl.MaxCoef; n++ {
		want := 1 + 2*ruleClass(n)
		switch {
		case n == 0:
			want = 1
		case ruleClass(n) == 15:
			want = 30
		}
		if bins := impl.BinsOf(n, 3); len(bins) != want {
			t.Errorf("%d has %d bins, not %d", n, len(bins), want)
		}
	}
}

func TestBinsOfListsAreThoseOfEachNumber(t *testing.T) {
	for _, list := range numListsToTry() {
		for _, base := range basesToTry() {
			var want []impl.Bin
			for _, n := range list {
				want = append(want, impl.BinsOf(n, base)...)
			}
			if bins := impl.ListBins(list, base); !slices.Equal(bins, want) {
				t.Errorf("%v at %d: %v", list, base, bins)
			}
		}
	}
}

func TestNumbersAreReadBack(t *testing.T) {
	for _, list := range numListsToTry() {
		for _, base := range basesToTry() {
			checkNumsBack(t, list, base)
		}
	}
	for n := -impl.MaxCoef; n <= impl.MaxCoef; n += 1 + max(n, -n)/50 {
		checkNumsBack(t, []int{n}, 0)
		checkNumsBack(t, []int{n, 0, n, -n}, 380)
	}
}

func TestShortListsOfNumbersAreReadBack(t *testing.T) {
	for n := range 5 {
		eachList(n, -3, 3, func(list []int) { checkNumsBack(t, list, 60) })
	}
	for _, a := range numbersToTry() {
		for _, b := range numbersToTry() {
			checkNumsBack(t, []int{a, b}, 0)
		}
	}
}

func TestThrownNumbersAreReadBack(t *testing.T) {
	d := dice(101)
	for range 400 {
		checkNumsBack(t, smallAndGreat(&d, d.below(200)), d.below(381))
	}
}

func TestAsManyNumbersAsCanBe(t *testing.T) {
	d := dice(102)
	for _, n := range []int{4095, 4096} {
		for _, list := range [][]int{make([]int, n), alike(n, impl.MaxCoef), alike(n, -impl.MaxCoef), smallAndGreat(&d, n), thrown(&d, n, -5, 5)} {
			for _, base := range []int{0, 77, 380} {
				checkNumsBack(t, list, base)
			}
		}
	}
	for _, n := range []int{4097, 4098, 8192, 1 << 16, 1<<16 + 1} {
		for _, list := range [][]int{make([]int, n), alike(n, impl.MaxCoef), smallAndGreat(&d, n)} {
			if bins := impl.ListBins(list, 0); len(bins) != 0 {
				t.Errorf("%d numbers: %d bins", n, len(bins))
			}
		}
	}
}

// A list may be read in part, from its beginning.
func TestReadingFewerNumbersThanThereAre(t *testing.T) {
	d := dice(103)
	list := smallAndGreat(&d, 120)
	b := impl.EncodeBins(impl.ListBins(list, 33))
	for n := range len(list) + 1 {
		if nums := impl.ReadNums(b, n, 33); !slices.Equal(nums, list[:n]) {
			t.Errorf("%d of %v: %v", n, list, nums)
		}
	}
}

// wrongBases are none, some of them with low bits that look like one.
func wrongBases() []int {
	return append(farNumbers(), -1, -2, -20, -380, 381, 382, 399, 400, 401, 512, 1<<16+1, 1<<32+380, -1<<32+1)
}

func TestBasesAtTheLimits(t *testing.T) {
	b := impl.EncodeBins(ruleListBins([]int{5, -5, 0}, 0))
	for _, x := range []struct {
		base int
		ok   bool
	}{{-1, false}, {0, true}, {1, true}, {379, true}, {380, true}, {381, false}} {
		for _, n := range numbersToTry() {
			if bins := impl.BinsOf(n, x.base); (len(bins) != 0) != x.ok {
				t.Errorf("%d at %d: %v", n, x.base, bins)
			}
			if bins := impl.ListBins([]int{0, n}, x.base); (len(bins) != 0) != x.ok {
				t.Errorf("0 and %d at %d: %v", n, x.base, bins)
			}
		}
		if nums := impl.ReadNums(b, 3, x.base); (len(nums) != 0) != x.ok {
			t.Errorf("three numbers at %d: %v", x.base, nums)
		}
		if x.ok {
			checkNums(t, b, 3, x.base)
		}
	}
	for _, base := range wrongBases() {
		for _, n := range numbersToTry() {
			if bins := impl.BinsOf(n, base); len(bins) != 0 {
				t.Errorf("%d at %d: %v", n, base, bins)
			}
		}
		for _, list := range numListsToTry() {
			if bins := impl.ListBins(list, base); len(bins) != 0 {
				t.Errorf("%v at %d: %v", list, base, bins)
			}
		}
		for _, n := range []int{0, 1, 2, 4096} {
			for _, text := range [][]byte{nil, b, {255, 255, 255, 255, 255}} {
				if nums := impl.ReadNums(text, n, base); len(nums) != 0 {
					t.Errorf("%d numbers at %d: %v", n, base, nums)
				}
			}
		}
	}
}

func TestNumbersAtTheLimits(t *testing.T) {
	for _, base := range basesToTry() {
		for _, n := range []int{-impl.MaxCoef, -impl.MaxCoef + 1, impl.MaxCoef - 1, impl.MaxCoef} {
			if bins := impl.BinsOf(n, base); len(bins) != 30 {
				t.Errorf("%d at %d: %v", n, base, bins)
			}
		}
		for _, n := range farNumbers() {
			if bins := impl.BinsOf(n, base); len(bins) != 0 {
				t.Errorf("%d at %d: %v", n, base, bins)
			}
		}
	}
	for _, n := range farNumbers() {
		for _, base := range wrongBases() {
			if bins := impl.BinsOf(n, base); len(bins) != 0 {
				t.Errorf("%d at %d: %v", n, base, bins)
			}
		}
	}
}

func TestNoBinsOfListsWithAWrongNumber(t *testing.T) {
	for _, wrong := range farNumbers() {
		for _, size := range []int{1, 2, 3, 64} {
			for at := range size {
				for _, list := range [][]int{make([]int, size), alike(size, impl.MaxCoef)} {
					if bins := impl.ListBins(with(list, at, wrong), 0); len(bins) != 0 {
						t.Errorf("%d at place %d of %d: %v", wrong, at, size, bins)
					}
				}
			}
		}
		for _, at := range []int{0, 1, 2047, 4094, 4095} {
			if bins := impl.ListBins(with(make([]int, 4096), at, wrong), 380); len(bins) != 0 {
				t.Errorf("%d at place %d of 4096: %d bins", wrong, at, len(bins))
			}
		}
	}
	for at := range 4096 {
		if bins := impl.ListBins(with(make([]int, 4096), at, impl.MaxCoef+1), 0); len(bins) != 0 {
			t.Errorf("one past MaxCoef at place %d: %d bins", at, len(bins))
		}
		if bins := impl.ListBins(with(make([]int, 4096), at, -impl.MaxCoef), 0); len(bins) != 4095+30 {
			t.Errorf("-MaxCoef at place %d: %d bins", at, len(bins))
		}
	}
}

func TestHowManyNumbersAtTheLimits(t *testing.T) {
	d := dice(104)
	for _, b := range [][]byte{nil, {200}, bytesThrown(&d, 50), bytesThrown(&d, 9000)} {
		for _, n := range []int{0, 1, 4095, 4096} {
			for _, base := range []int{0, 40, 380} {
				checkNums(t, b, n, base)
			}
		}
		for _, n := range append(farNumbers(), -1, -2, -4096, 4097, 4098, 8192, 1<<32+5, -1<<32+5) {
			for _, base := range []int{-1, 0, 380, 381} {
				if nums := impl.ReadNums(b, n, base); len(nums) != 0 {
					t.Errorf("%d at %d: %d numbers", n, base, len(nums))
				}
			}
		}
	}
}

func TestReadingNumbersByHand(t *testing.T) {
	// No bytes are bits of 0: a number that is not 0, not below 0, of class 1.
	if nums := impl.ReadNums(nil, 4096, 0); !slices.Equal(nums, alike(4096, 1)) {
		t.Errorf("of no bytes: %v", nums)
	}
	if nums := impl.ReadNums(nil, 0, 380); len(nums) != 0 {
		t.Errorf("no numbers of no bytes: %v", nums)
	}
	// Just part of the first context: a 1, and nothing else is needed for a 0;
	// of what is left all bits are 0.
	if nums := impl.ReadNums([]byte{0x7f, 0xff, 0xf8, 0}, 3, 380); !slices.Equal(nums, []int{0, 1, 1}) {
		t.Errorf("of just part: %v", nums)
	}
	if nums := impl.ReadNums([]byte{0x7f, 0xff, 0xf7, 0xff}, 1, 380); !slices.Equal(nums, []int{-impl.MaxCoef}) {
		t.Errorf("of one below part: %v", nums)
	}
	// Each first bit is a 1, and a 0 has no other.
	if nums := impl.ReadNums(bytes.Repeat([]byte{255}, 9), 20, 7); !slices.Equal(nums, make([]int, 20)) {
		t.Errorf("all 255: %v", nums)
	}
}

// Each short list is read with the bits as they come, one more at a time.
func TestReadingNumbersOneBitAtATime(t *testing.T) {
	d := dice(105)
	for _, base := range basesToTry() {
		for _, b := range [][]byte{nil, {0}, {127}, {128}, {255}, {127, 255}, {64, 0, 0, 0, 9}, {255, 255, 255, 255, 255, 255}, bytesThrown(&d, 3), bytesThrown(&d, 9), bytesThrown(&d, 30)} {
			for _, n := range []int{0, 1, 2, 7} {
				want := ruleReadNums(b, n, base)
				if nums := impl.ReadNums(b, n, base); !slices.Equal(nums, want) {
					t.Errorf("%d numbers at %d of %v: %v, not %v", n, base, b, nums, want)
				}
				checkNums(t, b, n, base)
			}
		}
	}
	for x := range 256 {
		for _, b := range [][]byte{{byte(x)}, {127, byte(x)}, {127, 255, byte(x)}, {63, 255, 250, byte(x), 255}} {
			want := ruleReadNums(b, 3, 40)
			if nums := impl.ReadNums(b, 3, 40); !slices.Equal(nums, want) {
				t.Errorf("3 numbers of %v: %v, not %v", b, nums, want)
			}
		}
	}
}

// damaged is bytes that begin as those of great numbers do, and go on by
// chance.
func damaged(d *dice, base int) []byte {
	b := impl.EncodeBins(ruleListBins(thrown(d, 30, 8000, impl.MaxCoef), base))
	cut := d.below(len(b))
	return slices.Concat(b[:cut], bytesThrown(d, 60))
}

func TestReadingNumbersThatWereNeverWritten(t *testing.T) {
	d := dice(106)
	seen := map[int]int{}
	look := func(b []byte, n, base int) {
		for _, x := range checkNums(t, b, n, base) {
			class := ruleClass(x)
			if x < 0 {
				class = -class
			}
			seen[class]++
		}
	}
	for _, base := range basesToTry() {
		for _, n := range []int{1, 9, 80, 600} {
			for _, size := range []int{0, 1, 2, 3, 4, 5, 9, 40, 300} {
				full := bytes.Repeat([]byte{255}, size)
				look(full, n, base)
				look(slices.Concat(full, bytesThrown(&d, 50)), n, base)
				look(slices.Concat(make([]byte, size), full), n, base)
				look(bytesThrown(&d, size), n, base)
			}
			for range 12 {
				look(damaged(&d, base), n, base)
			}
		}
	}
	for class := -15; class <= 15; class++ {
		if seen[class] == 0 {
			t.Errorf("no number of class %d came", class)
		}
	}
}

// Bytes beyond the end are 0.
func TestReadingNumbersThatEndTooEarly(t *testing.T) {
	for _, list := range numListsToTry() {
		if len(list) > 64 {
			continue
		}
		b := impl.EncodeBins(ruleListBins(list, 20))
		for size := range b {
			short := slices.Clone(b[:size])
			nums := checkNums(t, short, len(list), 20)
			if filled := slices.Concat(short, make([]byte, len(b))); !slices.Equal(nums, impl.ReadNums(filled, len(list), 20)) {
				t.Errorf("%v, cut off at %d: %v", b, size, nums)
			}
		}
	}
}

// All contexts begin alike, so that which twenty they are is of no matter.
func TestReadingNumbersAtAnotherBase(t *testing.T) {
	d := dice(107)
	list := smallAndGreat(&d, 50)
	b := impl.EncodeBins(ruleListBins(list, 0))
	for base := range 381 {
		if nums := impl.ReadNums(b, len(list), base); !slices.Equal(nums, list) {
			t.Errorf("at %d: %v", base, nums)
		}
	}
}

func TestNumberBinsLeaveArgumentsAlone(t *testing.T) {
	for _, x := range numListsToTry() {
		for _, base := range []int{0, 380} {
			list := guard(x, 7, impl.MaxCoef+1, -3)
			want := ruleListBins(x, base)
			if bins := impl.ListBins(list.list, base); !slices.Equal(bins, want) {
				t.Errorf("ListBins read what lies behind %v", x)
			}
			list.check(t, "ListBins")
			b := impl.EncodeBins(want)
			for _, text := range []guarded[byte]{guard(b, 255, 1, 2), guard(b[:len(b)-1], b[len(b)-1]|1, 255), guard([]byte(nil), b...), guard([]byte{9}, 255, 255, 255, 255)} {
				nums := impl.ReadNums(text.list, len(x), base)
				if !slices.Equal(nums, impl.ReadNums(slices.Clone(text.list), len(x), base)) {
					t.Errorf("ReadNums read what lies behind %v", text.list)
				}
				text.check(t, "ReadNums")
				checkNums(t, text.list, len(x), base)
			}
		}
	}
	for _, wrong := range [][]int{{impl.MaxCoef + 1}, {0, -impl.MaxCoef - 1}, make([]int, 4097)} {
		list := guard(wrong, 0, 1)
		if len(impl.ListBins(list.list, 0)) != 0 {
			t.Error("taken with what lies behind")
		}
		list.check(t, "ListBins of wrong numbers")
	}
	for _, n := range []int{-1, 4097} {
		b := guard([]byte{1, 2, 3, 4}, 5, 6)
		if len(impl.ReadNums(b.list, n, 0)) != 0 {
			t.Errorf("%d numbers were read", n)
		}
		b.check(t, "ReadNums of a wrong count")
	}
}

func TestNumberBinsAreNewMemory(t *testing.T) {
	for _, n := range numbersToTry() {
		bins, other := impl.BinsOf(n, 9), impl.BinsOf(n, 9)
		scribble(bins, impl.Bin{Ctx: 77, Bit: 5})
		if want := ruleNumBins(n, 9); !slices.Equal(other, want) || !slices.Equal(impl.BinsOf(n, 9), want) {
			t.Errorf("%d: bins share memory", n)
		}
	}
	for i, list := range numListsToTry() {
		was := slices.Clone(list)
		bins, other := impl.ListBins(list, 9), impl.ListBins(list, 9)
		scribble(bins, impl.Bin{Ctx: 77, Bit: 5})
		want := ruleListBins(was, 9)
		if !slices.Equal(list, was) || !slices.Equal(other, want) || !slices.Equal(impl.ListBins(list, 9), want) {
			t.Errorf("list %d: bins share memory", i)
		}
		b := impl.EncodeBins(want)
		keep := slices.Clone(b)
		nums, again := impl.ReadNums(b, len(list), 9), impl.ReadNums(b, len(list), 9)
		scribble(nums, 12345)
		if !bytes.Equal(b, keep) || !slices.Equal(again, was) {
			t.Errorf("list %d: numbers share memory", i)
		}
		scribble(b, 99)
		if !slices.Equal(again, was) {
			t.Errorf("list %d: numbers change with what they were read from", i)
		}
	}
}

// What one call learns, or whose base it knew, no other one knows.
func TestNumberBinsAnswerTheSameAgain(t *testing.T) {
	list := []int{0, -7, 300, 1, -impl.MaxCoef, 0}
	want := ruleListBins(list, 50)
	b := impl.EncodeBins(want)
	for _, other := range numListsToTry() {
		for _, base := range []int{-1, 0, 50, 380, 381} {
			impl.ListBins(other, base)
			impl.BinsOf(len(other), base)
			impl.ReadNums([]byte{90, 3, 200}, len(other), base)
			if bins := impl.ListBins(list, 50); !slices.Equal(bins, want) {
				t.Fatalf("behind %v at %d: %v", other, base, bins)
			}
			if nums := impl.ReadNums(b, len(list), 50); !slices.Equal(nums, list) {
				t.Fatalf("behind %v at %d: %v", other, base, nums)
			}
		}
	}
}
