package tests

import (
	"math"
	"runtime"
	"slices"
	"strconv"
	"sync"
	"testing"

	"loop.example/g00139/impl"
)

func grey(n int) []int { return []int{n, n, n} }

func greys(nums ...int) [][]int {
	var list [][]int
	for _, n := range nums {
		list = append(list, grey(n))
	}
	return list
}

// pixelsRule is PixelsOk by another way than the program's.
func pixelsRule(list [][]int) bool {
	wrong := slices.ContainsFunc(list, func(px []int) bool { return len(px) != 3 || !between(0, 255, px...) })
	return !wrong && len(list) <= 4096
}

func paintsRule(colours [][]int) bool {
	return pixelsRule(colours) && len(colours) != 0 && len(colours) < 257
}

// parting is what came about while a palette was made.
type parting struct {
	boxes, numbers, odd, through, moved, narrow, early, halves, thirds int
}

func (p *parting) add(q parting) {
	p.boxes += q.boxes
	p.numbers += q.numbers
	p.odd += q.odd
	p.through += q.through
	p.moved += q.moved
	p.narrow += q.narrow
	p.early += q.early
	p.halves += q.halves
	p.thirds += q.thirds
}

func (p parting) least() int {
	return min(p.boxes, p.numbers, p.odd, p.through, p.moved, p.narrow, p.early, p.halves, p.thirds)
}

// ruleApart is the greatest difference in a number between pixels, which are
// told by their places in the list.
func ruleApart(list [][]int, box []int, number int) int {
	var nums []int
	for _, at := range box {
		nums = append(nums, list[at][number])
	}
	return slices.Max(nums) - slices.Min(nums)
}

func ruleWide(list [][]int, box []int) bool {
	return slices.ContainsFunc(box, func(at int) bool { return !slices.Equal(list[at], list[box[0]]) })
}

// ruleWhich is the box that is parted, the number by which it is, and how great
// the difference is; -1 for the box where none is wide.
func ruleWhich(list [][]int, boxes [][]int, p *parting) (int, int, int) {
	which, by, most := -1, 0, 0
	for i, box := range boxes {
		if !ruleWide(list, box) {
			p.narrow += min(1, len(boxes)-1)
			continue
		}
		for number := range 3 {
			apart := ruleApart(list, box, number)
			if apart == most && which == i {
				p.numbers++
			}
			if apart == most && which >= 0 && which < i {
				p.boxes++
			}
			if which < 0 || apart > most {
				which, by, most = i, number, apart
			}
		}
	}
	return which, by, most
}

// ruleByNumber has the pixels with each number there is behind one another.
func ruleByNumber(list [][]int, box []int, number int) []int {
	var out []int
	for n := range 256 {
		for _, at := range box {
			if list[at][number] == n {
				out = append(out, at)
			}
		}
	}
	return out
}

func ruleMeans(list [][]int, box []int, p *parting) []int {
	var means []int
	for number := range 3 {
		sum, n := 0, len(box)
		for _, at := range box {
			sum += list[at][number]
		}
		means = append(means, ruleRounded(sum, n))
		p.halves += boolNum(isHalf(sum, n))
		p.thirds += boolNum(n == 3 && sum%3 != 0)
	}
	return means
}

func boolNum(is bool) int {
	if is {
		return 1
	}
	return 0
}

func rulePalette(list [][]int, k int) ([][]int, parting) {
	p := parting{}
	if !pixelsRule(list) || len(list) == 0 || k < 1 || k > 256 {
		return nil, p
	}
	boxes := [][]int{steps(0, len(list)-1)}
	for len(boxes) < k {
		which, by, _ := ruleWhich(list, boxes, &p)
		if which < 0 {
			p.early++
			break
		}
		rising := ruleByNumber(list, boxes[which], by)
		half := (len(rising) - len(rising)%2) / 2
		last, next := rising[half-1], rising[half]
		p.odd += len(rising) % 2
		p.through += boolNum(list[last][by] == list[next][by] && !slices.Equal(list[last], list[next]))
		p.moved += boolNum(!slices.IsSorted(boxes[which]) && list[last][by] == list[next][by] && last > next)
		boxes[which] = rising[:half]
		boxes = append(boxes, rising[half:])
	}
	var colours [][]int
	for _, box := range boxes {
		colours = append(colours, ruleMeans(list, box, &p))
	}
	return colours, p
}

func ruleSquares(a, b []int) int {
	sum := 0
	for i := range 3 {
		sum += a[i]*a[i] - 2*a[i]*b[i] + b[i]*b[i]
	}
	return sum
}

func ruleNearest(colours [][]int, px []int) int {
	if !paintsRule(colours) || !pixelRule(8, px) {
		return -1
	}
	var all []int
	for _, c := range colours {
		all = append(all, ruleSquares(c, px))
	}
	return slices.Index(all, slices.Min(all))
}

func ruleMapTo(list [][]int, colours [][]int) []int {
	if !pixelsRule(list) || !paintsRule(colours) {
		return nil
	}
	var told []int
	for _, px := range list {
		told = append(told, ruleNearest(colours, px))
	}
	return told
}

// dithered is what came about while pixels were dithered: sums at a half on
// both sides of 0, sums below 0, and numbers brought to 0 and to 255.
type dithered struct{ above, below, negative, low, high int }

func (x *dithered) add(y dithered) {
	x.above += y.above
	x.below += y.below
	x.negative += y.negative
	x.low += y.low
	x.high += y.high
}

func (x dithered) least() int { return min(x.above, x.below, x.negative, x.low, x.high) }

// count takes in one sum, and the number that it makes of a pixel's.
func (x *dithered) count(sum, n int) {
	half := isHalf(sum, 16)
	x.above += boolNum(half && sum > 0)
	x.below += boolNum(half && sum < 0)
	x.negative += boolNum(sum < 0)
	x.low += boolNum(n < 0)
	x.high += boolNum(n > 255)
}

// missing is by how much each pixel that was told missed its colour.
type missing struct {
	w   int
	all [][]int
}

// at is nothing missed where no pixel is, or none was told yet.
func (m missing) at(row, col int) []int {
	if row < 0 || col < 0 || col >= m.w || row*m.w+col >= len(m.all) {
		return []int{0, 0, 0}
	}
	return m.all[row*m.w+col]
}

// due is what a pixel gets from those that were told ahead of it.
func (m missing) due(row, col int) []int {
	left, right, over, back := m.at(row, col-1), m.at(row-1, col+1), m.at(row-1, col), m.at(row-1, col-1)
	var sums []int
	for i := range 3 {
		sums = append(sums, 7*left[i]+3*right[i]+5*over[i]+back[i])
	}
	return sums
}

func ruleDither(list [][]int, w int, colours [][]int) ([]int, dithered) {
	x := dithered{}
	if !pixelsRule(list) || !paintsRule(colours) || w < 1 || w > 4096 || len(list)%w != 0 {
		return nil, x
	}
	var told []int
	m := missing{w: w}
	for at, px := range list {
		due, now, missed := m.due(at/w, at%w), []int{}, []int{}
		for i, n := range px {
			n += halfUp(due[i], 16)
			x.count(due[i], n)
			now = append(now, broughtBack(8, n))
		}
		one := ruleNearest(colours, now)
		for i, n := range now {
			missed = append(missed, n-colours[one][i])
		}
		told, m.all = append(told, one), append(m.all, missed)
	}
	return told, x
}

// drawnPixels are n pixels of one kind or another: of all numbers, of few, so
// that many are alike, greys, the same all over, or rising.
func drawnPixels(d *dice, n int) [][]int {
	kind, low := d.below(10), d.below(250)
	few := [][]int{thrown(d, 3, 0, 255), thrown(d, 3, 0, 255), thrown(d, 3, 0, 255)}
	var list [][]int
	for i := range n {
		list = append(list, [][]int{
			thrown(d, 3, 0, 255),
			thrown(d, 3, 0, 3),
			thrown(d, 3, low, low+5),
			grey(d.below(256)),
			slices.Clone(few[d.below(3)]),
			slices.Clone(few[0]),
			{i % 256, (255 - i%256), d.below(2)},
			{low, d.below(2) * 255, d.below(2) * 255},
			thrown(d, 3, 254, 255),
			thrown(d, 3, 0, 1),
		}[kind])
	}
	return list
}

func drawnLen(d *dice) int {
	return []int{1, 2, 3, 4, 5, 7, 8, 1 + d.below(12), 1 + d.below(40), 1 + d.below(100)}[d.below(10)]
}

// drawnColours are 1 to 256 colours, some of them alike now and then.
func drawnColours(d *dice) [][]int {
	n := []int{1, 2, 2, 3, 4, 8, 1 + d.below(16), 1 + d.below(64), 1 + d.below(256), 256}[d.below(10)]
	colours := drawnPixels(d, n)
	if d.below(3) == 0 {
		colours[d.below(n)] = slices.Clone(colours[d.below(n)])
	}
	return colours
}

// checkPalette asks for what the chapter says, and tells what came about.
func checkPalette(t *testing.T, list [][]int, k int) parting {
	t.Helper()
	got := impl.Palette(list, k)
	want, p := rulePalette(list, k)
	if !sameBlocks(got, want) {
		t.Fatalf("Palette of %d pixels and k %d: %v, and not %v: %v", len(list), k, got, want, list[:min(len(list), 40)])
	}
	return p
}

func checkNearest(t *testing.T, colours [][]int, px []int) {
	t.Helper()
	if got, want := impl.Nearest(colours, px), ruleNearest(colours, px); got != want {
		t.Fatalf("Nearest of %d colours and %v: %d, and not %d", len(colours), px, got, want)
	}
}

func checkMapTo(t *testing.T, list, colours [][]int) {
	t.Helper()
	if got, want := impl.MapTo(list, colours), ruleMapTo(list, colours); !slices.Equal(got, want) {
		t.Fatalf("MapTo of %d pixels and %d colours: %v, and not %v", len(list), len(colours), got, want)
	}
}

func checkDither(t *testing.T, list [][]int, w int, colours [][]int) dithered {
	t.Helper()
	got := impl.Dither(list, w, colours)
	want, x := ruleDither(list, w, colours)
	if !slices.Equal(got, want) {
		t.Fatalf("Dither of %d pixels, w %d and %d colours: %v, and not %v", len(list), w, len(colours), got, want)
	}
	return x
}

// checkAll asks all five functions.
func checkAll(t *testing.T, list [][]int, k, w int, colours [][]int, px []int) {
	t.Helper()
	if got := impl.PixelsOk(list); got != pixelsRule(list) {
		t.Fatalf("PixelsOk of %d pixels: %v", len(list), got)
	}
	checkPalette(t, list, k)
	checkNearest(t, colours, px)
	checkMapTo(t, list, colours)
	checkDither(t, list, w, colours)
}

// dividing are all numbers that go into n.
func dividing(n int) []int {
	return slices.DeleteFunc(steps(1, n), func(w int) bool { return n%w != 0 })
}

// wrongPixels are no pixels at all.
func wrongPixels() [][]int {
	list := [][]int{nil, {}, {1}, {1, 2}, {1, 2, 3, 4}, {0, 0, 0, 0}, {0, 0, 0, 0, 0, 0}}
	for _, n := range append(far(), 256, -255) {
		list = append(list, []int{n, 0, 0}, []int{0, n, 0}, []int{0, 0, n}, grey(n))
	}
	return list
}

// wrongPaints are lists that are no palettes: none at all, too many, and those
// with something wrong ahead, between or behind.
func wrongPaints() map[string][][]int {
	m := map[string][][]int{"nil": nil, "none": {}, "257": slices.Repeat(greys(5), 257), "4096": slices.Repeat(greys(5), 4096)}
	for i, px := range wrongPixels() {
		for at := range 3 {
			list := greys(1, 2)
			m[strconv.Itoa(i)+" at "+strconv.Itoa(at)] = slices.Insert(list, at, px)
		}
	}
	return m
}

func TestPaletteLimits(t *testing.T) {
	if impl.MaxPixels != 4096 || impl.MaxColours != 256 {
		t.Fatal(impl.MaxPixels, impl.MaxColours)
	}
}

func TestPixelsOk(t *testing.T) {
	for n, want := range map[int]bool{0: true, 1: true, 2: true, 255: true, 256: true, 257: true, 4095: true, 4096: true, 4097: false, 5000: false, 8192: false} {
		if got := impl.PixelsOk(slices.Repeat([][]int{{0, 255, 7}}, n)); got != want {
			t.Errorf("%d pixels: %v", n, got)
		}
	}
	if !impl.PixelsOk(nil) || !impl.PixelsOk([][]int{}) || impl.PixelsOk([][]int{nil}) || impl.PixelsOk([][]int{{}}) {
		t.Error("lists without numbers")
	}
	for _, n := range []int{0, 1, 127, 128, 254, 255} {
		for place := range 3 {
			if px := with(grey(9), place, n); !impl.PixelsOk([][]int{px}) {
				t.Errorf("%v is refused", px)
			}
		}
	}
	for _, px := range wrongPixels() {
		for _, n := range []int{1, 2, 3, 4096} {
			for _, at := range []int{0, n / 2, n - 1} {
				list := slices.Repeat(greys(3), n)
				list[at] = px
				if impl.PixelsOk(list) {
					t.Fatalf("%v at %d of %d is taken", px, at, n)
				}
			}
		}
	}
}

func TestPaletteByHand(t *testing.T) {
	for what, x := range map[string]struct {
		list [][]int
		k    int
		want [][]int
	}{
		"one pixel, one colour":              {[][]int{{7, 8, 9}}, 1, [][]int{{7, 8, 9}}},
		"one pixel, many colours":            {[][]int{{7, 8, 9}}, 256, [][]int{{7, 8, 9}}},
		"at the ends of numbers":             {[][]int{{255, 0, 255}, {0, 255, 0}}, 2, [][]int{{0, 255, 0}, {255, 0, 255}}},
		"one colour of all":                  {greys(10, 20, 60), 1, greys(30)},
		"all the same":                       {slices.Repeat(greys(77), 9), 256, greys(77)},
		"the first of all numbers":           {[][]int{{10, 0, 10}, {0, 10, 0}}, 2, [][]int{{0, 10, 0}, {10, 0, 10}}},
		"the first of the first two numbers": {[][]int{{0, 10, 9}, {10, 0, 0}}, 2, [][]int{{0, 10, 9}, {10, 0, 0}}},
		"the first of the last two numbers":  {[][]int{{9, 10, 0}, {0, 0, 10}}, 2, [][]int{{0, 0, 10}, {9, 10, 0}}},
		"the first of the outer numbers":     {[][]int{{10, 9, 0}, {0, 0, 10}}, 2, [][]int{{0, 0, 10}, {10, 9, 0}}},
		"the second number":                  {[][]int{{0, 21, 20}, {20, 0, 0}}, 2, [][]int{{20, 0, 0}, {0, 21, 20}}},
		"the third number":                   {[][]int{{0, 0, 21}, {20, 20, 0}}, 2, [][]int{{20, 20, 0}, {0, 0, 21}}},
		"all 255 in a number":                {[][]int{{255, 255, 1}, {255, 255, 0}}, 2, [][]int{{255, 255, 0}, {255, 255, 1}}},
		"all 0 in a number":                  {[][]int{{0, 0, 1}, {0, 0, 0}}, 2, [][]int{{0, 0, 0}, {0, 0, 1}}},
		"the first of two boxes":             {greys(100, 0, 104, 4), 3, greys(0, 102, 4)},
		"the second box, by one more":        {greys(100, 0, 105, 4), 3, greys(2, 100, 105)},
		"the first box, by one more":         {greys(100, 0, 104, 5), 3, greys(0, 102, 5)},
		"boxes that differ in other numbers": {[][]int{{0, 0, 0}, {0, 0, 4}, {100, 0, 0}, {104, 0, 0}}, 3, [][]int{{0, 0, 0}, {102, 0, 0}, {0, 0, 4}}},
		"the greatest, not the sum of all":   {[][]int{{0, 0, 0}, {3, 3, 3}, {100, 0, 0}, {104, 0, 0}}, 3, [][]int{{2, 2, 2}, {100, 0, 0}, {104, 0, 0}}},
		"the greatest, not of most pixels":   {greys(0, 1, 2, 3, 100, 101, 102, 106), 3, greys(2, 101, 104)},
		"new boxes come at the end":          {greys(0, 10, 40, 100), 4, greys(0, 40, 100, 10)},
		"three pixels":                       {greys(20, 0, 10), 2, greys(0, 15)},
		"five pixels":                        {greys(40, 0, 20, 10, 30), 2, greys(5, 30)},
		"seven pixels":                       {greys(0, 1, 2, 200, 201, 202, 203), 2, greys(1, 202)},
		"the half, not the middle":           {greys(0, 1, 2, 3, 4, 255), 2, greys(1, 87)},
		"a cut through one number":           {[][]int{{100, 1, 0}, {0, 9, 0}, {0, 3, 0}, {0, 4, 0}}, 2, [][]int{{0, 6, 0}, {50, 3, 0}}},
		"a cut through the greater number":   {[][]int{{9, 90, 0}, {9, 3, 0}, {0, 0, 1}, {9, 4, 200}, {9, 5, 0}}, 2, [][]int{{9, 47, 0}, {6, 3, 67}}},
		// The first parting, by the first number, turns three pixels about.
		"in the order of the box": {[][]int{{2, 0, 5}, {1, 0, 9}, {0, 40, 0}, {200, 0, 0}, {200, 0, 0}, {200, 0, 0}}, 3, [][]int{{1, 0, 9}, {200, 0, 0}, {1, 20, 3}}},
		"boxes that are not wide": {[][]int{{0, 0, 0}, {210, 0, 0}, {0, 0, 0}, {200, 0, 0}}, 5, [][]int{{0, 0, 0}, {200, 0, 0}, {210, 0, 0}}},
		"one colour more often":   {greys(0, 0, 0, 10), 2, greys(0, 5)},
		"and in two boxes":        {greys(0, 0, 0, 10), 3, greys(0, 0, 10)},
		"none is wide any more":   {greys(0, 0, 0, 10), 256, greys(0, 0, 10)},
		"a half":                  {greys(0, 1), 1, greys(1)},
		"just below a half":       {greys(0, 0, 0, 1, 1), 1, greys(0)},
		"just above a half":       {greys(0, 0, 1, 1, 1), 1, greys(1)},
		"a third":                 {greys(0, 0, 1), 1, greys(0)},
		"two thirds":              {greys(0, 1, 1), 1, greys(1)},
		"each number by itself":   {[][]int{{0, 10, 255}, {1, 13, 254}, {1, 10, 254}}, 1, [][]int{{1, 11, 254}}},
	} {
		if got := impl.Palette(x.list, x.k); !sameBlocks(got, x.want) {
			t.Errorf("%s: %v, and not %v", what, got, x.want)
		}
		checkPalette(t, x.list, x.k)
	}
}

// Drawn pixels in which all that the chapter tells of comes about often.
func TestPaletteByRule(t *testing.T) {
	d, all := dice(2101), parting{}
	for range 3000 {
		list := drawnPixels(&d, drawnLen(&d))
		k := []int{1, 2, 3, 4, 5, 1 + d.below(20), 1 + d.below(256), len(list), 256}[d.below(9)]
		all.add(checkPalette(t, list, k))
	}
	if all.least() < 100 {
		t.Errorf("the pixels say too little: %+v", all)
	}
}

func TestPaletteOfMany(t *testing.T) {
	d := dice(2102)
	for _, n := range []int{255, 256, 257, 4095, 4096} {
		for _, k := range []int{1, 2, 255, 256} {
			checkPalette(t, drawnPixels(&d, n), k)
		}
		checkPalette(t, slices.Repeat(greys(9), n), 256)
		checkPalette(t, append(slices.Repeat(greys(9), n-1), grey(10)), 256)
	}
}

// The document's promise 21: no more colours than were asked for.
func TestPaletteHasAtMostK(t *testing.T) {
	d := dice(2103)
	for range 1000 {
		n, k := 1+d.below(300), []int{1, 2, 255, 256, 1 + d.below(256)}[d.below(5)]
		list := drawnPixels(&d, n)
		p := impl.Palette(list, k)
		if !between(1, min(n, k), len(p)) || !paintsRule(p) {
			t.Fatalf("%d pixels, k %d: %v", n, k, p)
		}
		for number := range 3 {
			for _, c := range p {
				if !between(leastIn(list, number), mostIn(list, number), c[number]) {
					t.Fatalf("%d pixels, k %d: %v has other numbers than the pixels", n, k, c)
				}
			}
		}
	}
}

func leastIn(list [][]int, number int) int {
	return slices.MinFunc(list, func(a, b []int) int { return a[number] - b[number] })[number]
}

func mostIn(list [][]int, number int) int {
	return slices.MaxFunc(list, func(a, b []int) int { return a[number] - b[number] })[number]
}

// The document's promise 21: with as many colours as there are pixels each has
// its own, and is mapped and dithered to it.
func TestPaletteWithOneForEach(t *testing.T) {
	d := dice(2104)
	for range 300 {
		n := []int{1, 2, 3, 255, 256, 1 + d.below(256), 1 + d.below(30)}[d.below(7)]
		list := drawnPixels(&d, n)
		for _, k := range []int{n, min(n+1, 256), 256} {
			p := impl.Palette(list, k)
			if len(p) > n {
				t.Fatalf("%d pixels have %d colours", n, len(p))
			}
			for what, told := range map[string][]int{"MapTo": impl.MapTo(list, p), "Dither": impl.Dither(list, n, p)} {
				for i, one := range told {
					if !slices.Equal(p[one], list[i]) {
						t.Fatalf("%d pixels, k %d: %s tells %v of %v", n, k, what, p[one], list[i])
					}
				}
				if len(told) != n {
					t.Fatalf("%d pixels, k %d: %s tells %d", n, k, what, len(told))
				}
			}
		}
	}
}

func TestPaletteCounts(t *testing.T) {
	list := slices.Repeat(greys(0, 1, 2, 3, 4, 5, 6, 7), 64)
	for i, px := range list {
		list[i] = []int{px[0], i % 256, i / 256}
	}
	for k, want := range map[int]int{0: 0, 1: 1, 2: 2, 3: 3, 255: 255, 256: 256, 257: 0, 512: 0, -2: 0} {
		if got := impl.Palette(list, k); len(got) != want {
			t.Errorf("k %d: %d colours", k, len(got))
		}
	}
	for _, k := range far() {
		if got := impl.Palette(list, k); len(got) != 0 {
			t.Errorf("k %d: %d colours", k, len(got))
		}
	}
}

func TestPaletteOfOthers(t *testing.T) {
	for _, k := range []int{-1, 0, 1, 2, 255, 256, 257} {
		for what, list := range wrongPaints() {
			if what != "257" && what != "4096" && len(impl.Palette(list, k)) != 0 {
				t.Fatalf("%s, k %d: there is a palette", what, k)
			}
		}
		for n, want := range map[int]int{0: 0, 1: 1, 4095: 1, 4096: 1, 4097: 0, 5000: 0} {
			if got := impl.Palette(slices.Repeat(greys(5), n), k); len(got) != want*boolNum(k >= 1 && k <= 256) {
				t.Errorf("%d pixels, k %d: %v", n, k, got)
			}
		}
	}
}

func TestNearestByHand(t *testing.T) {
	far := greys(200, 201)
	for what, x := range map[string]struct {
		colours [][]int
		px      []int
		want    int
	}{
		"one colour":                    {greys(255), grey(0), 0},
		"itself":                        {greys(3, 4, 5), grey(4), 1},
		"the last":                      {greys(3, 4, 5), grey(255), 2},
		"the first of two alike":        {append(far, greys(7, 7)...), grey(7), 2},
		"the first of two as near":      {append(far, greys(9, 5)...), grey(7), 2},
		"in other numbers":              {[][]int{{9, 9, 9}, {0, 0, 5}, {0, 5, 0}, {5, 0, 0}}, grey(0), 1},
		"squares, not differences":      {[][]int{{6, 0, 0}, {4, 4, 0}}, grey(0), 1},
		"squares, not the greatest":     {[][]int{{3, 3, 3}, {5, 0, 0}}, grey(0), 1},
		"as great: 9 and 16, and 25":    {[][]int{{3, 4, 0}, {0, 0, 5}, {5, 0, 0}}, grey(0), 0},
		"above and below":               {[][]int{{104, 100, 100}, {97, 100, 100}}, grey(100), 1},
		"all numbers count alike":       {[][]int{{10, 0, 0}, {0, 10, 0}, {0, 0, 9}}, grey(0), 2},
		"from one end to the other":     {[][]int{{255, 255, 255}, {255, 255, 254}}, grey(0), 1},
		"each number of its own colour": {[][]int{{0, 255, 255}, {255, 0, 255}, {255, 255, 0}}, []int{250, 9, 240}, 1},
	} {
		if got := impl.Nearest(x.colours, x.px); got != x.want {
			t.Errorf("%s: %d, and not %d", what, got, x.want)
		}
	}
}

// The document's promise 21, of the answers alone: no colour is nearer, and
// none ahead as near.
func TestNearestIsNearest(t *testing.T) {
	d, alike := dice(2105), 0
	for range 3000 {
		colours, px := drawnColours(&d), drawnPixels(&d, 1)[0]
		if d.below(4) == 0 {
			px = slices.Clone(colours[d.below(len(colours))])
		}
		got := impl.Nearest(colours, px)
		if !between(0, len(colours)-1, got) {
			t.Fatalf("%d colours: %d", len(colours), got)
		}
		for i, c := range colours {
			here, there := ruleSquares(colours[got], px), ruleSquares(c, px)
			if there < here || there == here && i < got {
				t.Fatalf("%v of %v: %v at %d, and not %v at %d", px, colours, colours[got], got, c, i)
			}
			alike += boolNum(there == here && i > got)
		}
		checkNearest(t, colours, px)
	}
	if alike < 1000 {
		t.Error("the colours say too little", alike)
	}
}

func TestNearestOfOthers(t *testing.T) {
	for what, colours := range wrongPaints() {
		for _, px := range [][]int{grey(0), grey(5), {1, 2, 3}, nil, grey(256)} {
			if got := impl.Nearest(colours, px); got != -1 {
				t.Fatalf("%s, %v: %d", what, px, got)
			}
		}
	}
	for n, want := range map[int]int{0: -1, 1: 0, 2: 0, 255: 0, 256: 0, 257: -1, 4096: -1, 4097: -1} {
		if got := impl.Nearest(slices.Repeat(greys(5), n), grey(5)); got != want {
			t.Errorf("%d colours: %d", n, got)
		}
	}
	for _, px := range wrongPixels() {
		if got := impl.Nearest(greys(0, 255), px); got != -1 {
			t.Errorf("%v: %d", px, got)
		}
	}
	for _, px := range [][]int{grey(0), grey(255), {0, 255, 0}} {
		if got := impl.Nearest(greys(0, 255), px); got != boolNum(px[0]+px[1]+px[2] > 382) {
			t.Errorf("%v: %d", px, got)
		}
	}
	last := append(greys(steps(0, 254)...), []int{255, 0, 0})
	if got := impl.Nearest(last, []int{255, 0, 0}); got != 255 {
		t.Error("the last of 256", got)
	}
}

func TestMapToIsNearest(t *testing.T) {
	d := dice(2106)
	for range 300 {
		list, colours := drawnPixels(&d, drawnLen(&d)), drawnColours(&d)
		told := impl.MapTo(list, colours)
		if len(told) != len(list) {
			t.Fatalf("%d pixels: %d", len(list), len(told))
		}
		for i, px := range list {
			if want := impl.Nearest(colours, px); told[i] != want {
				t.Fatalf("%v: %d, and not %d", px, told[i], want)
			}
		}
		checkMapTo(t, list, colours)
	}
	checkMapTo(t, drawnPixels(&d, 4096), drawnPixels(&d, 256))
}

// asksToPaint are MapTo and Dither, with each w that goes into the number of
// pixels.
func asksToPaint(list [][]int, colours [][]int) map[string][]int {
	m := map[string][]int{"MapTo": impl.MapTo(list, colours)}
	for _, w := range []int{1, len(list), 2, 4096} {
		if w > 0 && len(list)%w == 0 {
			m["Dither, w "+strconv.Itoa(w)] = impl.Dither(list, w, colours)
		}
	}
	return m
}

func TestPaintingOfOthers(t *testing.T) {
	for what, colours := range wrongPaints() {
		for _, list := range [][][]int{greys(5), greys(1, 2, 3, 4), nil, {nil}} {
			for how, got := range asksToPaint(list, colours) {
				if len(got) != 0 {
					t.Fatalf("%s, %d pixels, %s: %v", how, len(list), what, got)
				}
			}
		}
	}
	for n, taken := range map[int]bool{0: false, 1: true, 2: true, 255: true, 256: true, 257: false} {
		for how, got := range asksToPaint(greys(1, 2), slices.Repeat(greys(5), n)) {
			if len(got) != 2*boolNum(taken) {
				t.Errorf("%s, %d colours: %v", how, n, got)
			}
		}
	}
	for n, taken := range map[int]bool{0: true, 1: true, 2: true, 4095: true, 4096: true, 4097: false, 8192: false} {
		for how, got := range asksToPaint(slices.Repeat(greys(7), n), greys(200, 7)) {
			if len(got) != n*boolNum(taken) || slices.Contains(got, 0) {
				t.Errorf("%s, %d pixels: %d", how, n, len(got))
			}
		}
	}
	for _, px := range wrongPixels() {
		for at := range 3 {
			list := slices.Insert(greys(1, 2, 3), at, px)
			for how, got := range asksToPaint(list, greys(0, 255)) {
				if len(got) != 0 {
					t.Fatalf("%s, %v at %d: %v", how, px, at, got)
				}
			}
		}
	}
}

func TestDitherWidths(t *testing.T) {
	for _, n := range []int{1, 2, 12, 4095, 4096} {
		list := slices.Repeat(greys(7), n)
		for _, w := range append(far(), 0, 1, 2, 3, 5, 8, n-1, n, n+1, 2*n, 4095, 4096, 4097) {
			got := impl.Dither(list, w, greys(7, 8))
			taken := w >= 1 && w <= 4096 && n/w*w == n
			if len(got) != n*boolNum(taken) || slices.Contains(got, 1) {
				t.Errorf("%d pixels, w %d: %d", n, w, len(got))
			}
		}
	}
	for _, w := range append(far(), 0, 1, 2, 4096, 4097) {
		if got := impl.Dither(nil, w, greys(7, 8)); len(got) != 0 {
			t.Errorf("no pixels, w %d: %v", w, got)
		}
	}
}

// fineGreys are black and all greys from 40 to 255: what was handed on to a
// pixel of these is to be seen in what is told of it.
func fineGreys() [][]int { return append(greys(0), greys(steps(40, 255)...)...) }

// toldGreys are the greys that are told of pixels that are grey.
func toldGreys(list [][]int, w int, colours [][]int) []int {
	var out []int
	for _, one := range impl.Dither(list, w, colours) {
		out = append(out, colours[one][0])
	}
	return out
}

func TestDitherByHand(t *testing.T) {
	two := greys(200, 0)
	for what, x := range map[string]struct {
		nums    []int
		w       int
		colours [][]int
		want    []int
	}{
		// Of 16 that are too many each neighbour gets its share, of 16 too few too.
		"to all sides":             {[]int{40, 16, 100, 100, 100, 100}, 3, fineGreys(), []int{40, 0, 107, 103, 105, 101}},
		"to all sides, below 0":    {[]int{40, 24, 100, 100, 100, 100}, 3, fineGreys(), []int{40, 40, 93, 97, 95, 99}},
		"no further than one row":  {[]int{40, 16, 40, 40, 40, 40, 100, 100, 100}, 3, fineGreys(), []int{40, 0, 47, 43, 45, 41, 100, 100, 100}},
		"from the left edge":       {[]int{16, 100, 100, 100, 100, 100}, 2, fineGreys(), []int{0, 107, 105, 101, 100, 100}},
		"from the right edge":      {[]int{100, 16, 100, 100, 100, 100}, 2, fineGreys(), []int{100, 0, 103, 105, 100, 100}},
		"from the right of three":  {[]int{100, 100, 16, 100, 100, 100, 100, 100, 100}, 3, fineGreys(), []int{100, 100, 0, 100, 103, 105, 100, 100, 100}},
		"one column":               {[]int{16, 100, 100}, 1, fineGreys(), []int{0, 105, 100}},
		"one row":                  {[]int{16, 100, 100}, 3, fineGreys(), []int{0, 107, 100}},
		"from the last row":        {[]int{100, 100, 16, 100}, 2, fineGreys(), []int{100, 100, 0, 107}},
		"from the last pixel":      {[]int{100, 100, 100, 16}, 2, fineGreys(), []int{100, 100, 100, 0}},
		"one pixel":                {[]int{16}, 1, fineGreys(), []int{0}},
		"three rows, one of two":   {[]int{100, 100, 100, 100, 16, 100, 100, 100}, 2, fineGreys(), []int{100, 100, 100, 100, 0, 107, 105, 101}},
		"halves go up":             {[]int{40, 8, 100, 100, 100, 100}, 3, fineGreys(), []int{40, 0, 104, 102, 103, 101}},
		"halves below 0 go up":     {[]int{40, 32, 100, 100, 100, 100}, 3, fineGreys(), []int{40, 40, 97, 99, 98, 100}},
		"just below halves":        {[]int{40, 7, 100, 100, 100, 100}, 3, fineGreys(), []int{40, 0, 103, 101, 102, 100}},
		"just above halves":        {[]int{40, 9, 100, 100, 100, 100}, 3, fineGreys(), []int{40, 0, 104, 102, 103, 101}},
		"above halves, below 0":    {[]int{40, 33, 100, 100, 100, 100}, 3, fineGreys(), []int{40, 40, 97, 99, 98, 100}},
		"below halves, below 0":    {[]int{40, 31, 100, 100, 100, 100}, 3, fineGreys(), []int{40, 40, 96, 98, 97, 99}},
		"the sum is rounded":       {[]int{1, 1, 100, 100}, 2, fineGreys(), []int{0, 0, 101, 100}},
		"brought to 255":           {[]int{250, 250, 70}, 3, two, []int{200, 200, 0}},
		"not above 255 yet":        {[]int{250, 233, 70}, 3, two, []int{200, 200, 0}},
		"more of it would be told": {[]int{250, 250, 76}, 3, two, []int{200, 200, 200}},
		"brought to 0":             {[]int{0, 5, 178}, 3, greys(50, 255), []int{50, 50, 255}},
		"less of it would be told": {[]int{0, 5, 174}, 3, greys(50, 255), []int{50, 50, 50}},
	} {
		list := greys(x.nums...)
		if got := toldGreys(list, x.w, x.colours); !slices.Equal(got, x.want) {
			t.Errorf("%s: %v, and not %v", what, got, x.want)
		}
		checkDither(t, list, x.w, x.colours)
	}
}

// Each number is handed on by itself, and none into another one.
func TestDitherNumbersApart(t *testing.T) {
	var colours [][]int
	for n := 60; n < 120; n++ {
		colours = append(colours, []int{n, 100, 100}, []int{100, n, 100}, []int{100, 100, n})
	}
	colours = append(colours, grey(0))
	for place := range 3 {
		list := [][]int{with(grey(0), place, 16), grey(100)}
		told := impl.Dither(list, 2, colours)
		if want := with(grey(100), place, 107); len(told) != 2 || !slices.Equal(colours[told[1]], want) {
			t.Errorf("number %d: %v, and not %v", place, told, want)
		}
	}
}

// Drawn pixels, with each w that goes into their number, in which all that the
// chapter tells of comes about often.
func TestDitherByRule(t *testing.T) {
	d, all := dice(2107), dithered{}
	for range 400 {
		n := []int{1, 2, 3, 4, 6, 12, 16, 24, 30, 36, 48, 60, 1 + d.below(100)}[d.below(13)]
		list, colours := drawnPixels(&d, n), drawnColours(&d)
		for _, w := range dividing(n) {
			all.add(checkDither(t, list, w, colours))
		}
	}
	if all.least() < 500 {
		t.Errorf("the pixels say too little: %+v", all)
	}
	for _, w := range []int{1, 64, 4096} {
		checkDither(t, drawnPixels(&d, 4096), w, drawnPixels(&d, 256))
	}
	checkDither(t, drawnPixels(&d, 4095), 63, greys(0, 255))
}

// Errors are handed on through many pixels; with few colours there are many.
func TestDitherOfGreys(t *testing.T) {
	for n := range 256 {
		list := slices.Repeat(greys(n), 64)
		for _, colours := range [][][]int{greys(0, 255), greys(255, 0), greys(n), greys(0), {{0, 255, 0}, {255, 0, 255}}} {
			for _, w := range []int{1, 8, 64} {
				checkDither(t, list, w, colours)
			}
		}
	}
}

// The document's promise 21: pixels that are colours of the palette are
// dithered to themselves, of two equal colours to the first.
func TestDitherToThemselves(t *testing.T) {
	d := dice(2108)
	for range 300 {
		colours := drawnColours(&d)
		n := []int{1, 2, 12, 1 + d.below(60)}[d.below(4)]
		var list [][]int
		var want []int
		for range n {
			px := slices.Clone(colours[d.below(len(colours))])
			list = append(list, px)
			want = append(want, slices.IndexFunc(colours, func(c []int) bool { return slices.Equal(c, px) }))
		}
		for _, w := range dividing(n) {
			if got := impl.Dither(list, w, colours); !slices.Equal(got, want) {
				t.Fatalf("%d pixels, w %d, %d colours: %v, and not %v", n, w, len(colours), got, want)
			}
		}
		if got := impl.MapTo(list, colours); !slices.Equal(got, want) {
			t.Fatalf("%d pixels, %d colours: mapped to %v, and not %v", n, len(colours), got, want)
		}
	}
}

// strangeList is pixels, or nearly such, or nothing of the kind.
func strangeList(d *dice) [][]int {
	n := []int{0, 1, 2, 3, 6, 12, 1 + d.below(30), 250 + d.below(10)}[d.below(8)]
	list := drawnPixels(d, n)
	if n > 0 && d.below(3) == 0 {
		wrong := wrongPixels()
		list[d.below(n)] = wrong[d.below(len(wrong))]
	}
	return list
}

// Whatever comes: each function answers, and by the rule.
func TestPalettesOfAnything(t *testing.T) {
	d, taken := dice(2109), parting{}
	strange := append(far(), 0, 1, 2, 3, 255, 256, 257, 4095, 4096, 4097)
	number := func() int {
		if d.below(3) == 0 {
			return strange[d.below(len(strange))]
		}
		return d.below(14) - 1
	}
	for range 3000 {
		list, colours := strangeList(&d), strangeList(&d)
		px := append(strangeList(&d), nil)[0]
		checkAll(t, list, number(), number(), colours, px)
		taken.odd += boolNum(pixelsRule(list) && paintsRule(colours))
	}
	if !between(500, 2500, taken.odd) {
		t.Error("the lists say too little", taken.odd)
	}
	for _, n := range append(strange, math.MinInt) {
		checkAll(t, nil, n, n, nil, nil)
		checkAll(t, [][]int{}, n, n, [][]int{}, []int{})
		checkAll(t, [][]int{nil}, n, n, [][]int{nil}, nil)
		checkAll(t, greys(1, 2), n, n, nil, nil)
		checkAll(t, nil, n, n, greys(1, 2), grey(1))
		checkAll(t, slices.Repeat(greys(1), 4097), n, n, slices.Repeat(greys(1), 257), grey(1))
	}
}

// roomyLists are the same lists in new memory, with what must not be seen in
// the room behind each, and behind all of them.
func roomyLists(lists [][]int) [][]int {
	out := make([][]int, 0, len(lists)+3)
	for _, list := range lists {
		out = append(out, guard(list, 5, 256).list)
	}
	n := len(out)
	return append(out, []int{1, 2, 3}, nil, []int{-1})[:n]
}

// openedLists is what stands in lists and in the room behind them.
func openedLists(lists [][]int) [][]int {
	var out [][]int
	for _, list := range lists[:cap(lists)] {
		out = append(out, slices.Clone(list[:cap(list)]))
	}
	return out
}

// What lies behind a list's length is neither read nor written: not another
// pixel, nor a third number behind two, nor a fourth behind three.
func TestPalettesLeaveArguments(t *testing.T) {
	d := dice(2110)
	for range 300 {
		list, colours, px := strangeList(&d), strangeList(&d), append(strangeList(&d), nil)[0]
		own, paints, one := roomyLists(list), roomyLists(colours), guard(px, 7, 8)
		wasOwn, wasPaints := openedLists(own), openedLists(paints)
		for _, n := range []int{0, 1, 2, 3, len(list), 256} {
			checkAll(t, own, n, n, paints, one.list)
			// The palette is made of the same list as the pixels.
			checkAll(t, own, n, n, own, one.list)
		}
		one.check(t, "px")
		if !sameBlocks(openedLists(own), wasOwn) || !sameBlocks(openedLists(paints), wasPaints) {
			t.Fatal("an argument, or the room behind it, was written into")
		}
	}
	own := roomyLists(slices.Repeat(greys(9), 4096))
	was := openedLists(own)
	checkAll(t, own, 256, 64, own[:256], own[0])
	if !sameBlocks(openedLists(own), was) {
		t.Fatal("an argument, or the room behind it, was written into")
	}
}

// scribbleLists writes a number of its own over each list with its spare room,
// and tells whether each kept it.
func scribbleLists(lists [][]int) bool {
	for i, list := range lists {
		scribble(list, 1000+i)
	}
	for i, list := range lists {
		if !slices.Equal(list, grey(1000+i)) {
			return false
		}
	}
	scribble(lists, []int{-1})
	return true
}

// Each answer is asked for twice, one of them and the arguments written over.
func TestPalettesAreNewMemory(t *testing.T) {
	d := dice(2111)
	for range 100 {
		n, k := 1+d.below(40), 1+d.below(60)
		list, colours := drawnPixels(&d, n), drawnColours(&d)
		own, paints := cloneBlocks(list), cloneBlocks(colours)
		a, b := impl.Palette(own, k), impl.Palette(own, k)
		if !scribbleLists(a) {
			t.Fatalf("%d pixels, k %d: two colours share memory", n, k)
		}
		m, o := impl.MapTo(own, paints), impl.MapTo(own, paints)
		x, y := impl.Dither(own, n, paints), impl.Dither(own, n, paints)
		scribble(m, 7)
		scribble(x, 8)
		if !sameBlocks(own, list) || !sameBlocks(paints, colours) {
			t.Fatalf("%d pixels, k %d: an answer shares memory with an argument", n, k)
		}
		scribbleLists(own)
		scribbleLists(paints)
		palette, _ := rulePalette(list, k)
		dither, _ := ruleDither(list, n, colours)
		if !sameBlocks(b, palette) || !slices.Equal(o, ruleMapTo(list, colours)) || !slices.Equal(y, dither) {
			t.Fatalf("%d pixels, k %d: an answer shares memory with another one or with an argument", n, k)
		}
	}
}

// paletteAsked is what all functions are asked, and what they have to answer.
type paletteAsked struct {
	list, colours [][]int
	k, w, nearest int
	px            []int
	ok            bool
	palette       [][]int
	mapped, dith  []int
}

func (a paletteAsked) same() bool {
	return impl.PixelsOk(a.list) == a.ok && sameBlocks(impl.Palette(a.list, a.k), a.palette) && impl.Nearest(a.colours, a.px) == a.nearest &&
		slices.Equal(impl.MapTo(a.list, a.colours), a.mapped) && slices.Equal(impl.Dither(a.list, a.w, a.colours), a.dith)
}

func palettesAsked(d *dice) []paletteAsked {
	var all []paletteAsked
	for range 100 {
		a := paletteAsked{list: strangeList(d), colours: strangeList(d), k: d.below(40), px: append(strangeList(d), nil)[0]}
		a.w = []int{1, len(a.list), d.below(5)}[d.below(3)]
		a.ok, a.nearest = pixelsRule(a.list), ruleNearest(a.colours, a.px)
		a.palette, _ = rulePalette(a.list, a.k)
		a.mapped = ruleMapTo(a.list, a.colours)
		a.dith, _ = ruleDither(a.list, a.w, a.colours)
		all = append(all, a)
	}
	return all
}

// The same arguments give the same answers, whatever was asked for between, and
// asked from many goroutines at once, of the same lists.
func TestPalettesAtOnce(t *testing.T) {
	d := dice(2112)
	list := palettesAsked(&d)
	for range 3 {
		slices.Reverse(list)
		for _, a := range list {
			if !a.same() {
				t.Fatalf("%d pixels, k %d, w %d: other answers", len(a.list), a.k, a.w)
			}
		}
	}
	was := runtime.NumGoroutine()
	var all sync.WaitGroup
	for worker := range 8 {
		all.Add(1)
		go func() {
			defer all.Done()
			for i := range list {
				if a := list[(i+worker*12)%len(list)]; !a.same() {
					t.Errorf("at once: %d pixels, k %d, w %d: other answers", len(a.list), a.k, a.w)
				}
			}
		}()
	}
	all.Wait()
	for range 1000 {
		if runtime.NumGoroutine() <= was {
			return
		}
		runtime.Gosched()
	}
	t.Error("goroutines are left", was, runtime.NumGoroutine())
}
