package tests

import (
	"math"
	"os"
	"os/exec"
	"slices"
	"strconv"
	"strings"
	"sync"
	"testing"

	"loop.example/g00139/impl"
)

// turner is one of the two turns, with the chapter's words for it.
type turner struct {
	of   func(prec int, px []int) []int
	rule func(prec int, px []int) []int
}

func turners() map[string]turner {
	return map[string]turner{
		"ToYcc":   {impl.ToYcc, ruleToYcc},
		"FromYcc": {impl.FromYcc, ruleFromYcc},
	}
}

// halfUp is n by d, rounded, without great numbers, which would take too long
// for all colours: n is brought above 0 by whole times of d, and back.
func halfUp(n, d int) int {
	const times = 1 << 20
	return (2*(n+times*d)+d)/(2*d) - times
}

func topOf(prec int) int { return 1<<prec - 1 }

func halfOf(prec int) int { return 1 << (prec - 1) }

func broughtBack(prec, n int) int {
	switch {
	case n < 0:
		return 0
	case n > topOf(prec):
		return topOf(prec)
	}
	return n
}

func pixelRule(prec int, px []int) bool {
	if prec != 8 && prec != 12 || len(px) != 3 {
		return false
	}
	return between(0, topOf(prec), px...)
}

// ruleAway are the three numbers of ToYcc as they are ahead of being brought
// back.
func ruleAway(prec int, px []int) []int {
	r, g, b := px[0], px[1], px[2]
	y := halfUp(77*r+150*g+29*b, 256)
	return []int{y, halfOf(prec) + halfUp(144*(b-y), 256), halfOf(prec) + halfUp(183*(r-y), 256)}
}

func ruleToYcc(prec int, px []int) []int {
	if !pixelRule(prec, px) {
		return nil
	}
	list := ruleAway(prec, px)
	for i, n := range list {
		list[i] = broughtBack(prec, n)
	}
	return list
}

// ruleRedBlue are red and blue of FromYcc as they are ahead of being brought
// back.
func ruleRedBlue(prec int, px []int) (int, int) {
	y, u, v := px[0], px[1], px[2]
	return y + halfUp(359*(v-halfOf(prec)), 256), y + halfUp(454*(u-halfOf(prec)), 256)
}

// ruleGreen is green of FromYcc, from such a red and blue, ahead of being
// brought back.
func ruleGreen(y, r, b int) int { return halfUp(256*y-77*r-29*b, 150) }

func ruleFromYcc(prec int, px []int) []int {
	if !pixelRule(prec, px) {
		return nil
	}
	r, b := ruleRedBlue(prec, px)
	r, b = broughtBack(prec, r), broughtBack(prec, b)
	return []int{r, broughtBack(prec, ruleGreen(px[0], r, b)), b}
}

// check asks for what the chapter says, and answers what came.
func (x turner) check(t *testing.T, what string, prec int, px []int) []int {
	t.Helper()
	got, want := x.of(prec, px), x.rule(prec, px)
	if !slices.Equal(got, want) {
		t.Fatalf("%s of prec %d and %v: %v, and not %v", what, prec, px, got, want)
	}
	return got
}

// checkBoth is check of both turns.
func checkBoth(t *testing.T, prec int, px []int) {
	t.Helper()
	for what, x := range turners() {
		x.check(t, what, prec, px)
	}
}

func checkNoColour(t *testing.T, prec int, px []int) {
	t.Helper()
	for what, x := range turners() {
		if got := x.of(prec, px); len(got) != 0 {
			t.Errorf("%s of prec %d and %v: %v", what, prec, px, got)
		}
	}
}

// tonesToTry are numbers at the limits, about the half and between, in order.
func tonesToTry(prec int) []int {
	top, half := topOf(prec), halfOf(prec)
	list := []int{0, 1, 2, 3, top - 2, top - 1, top, half - 2, half - 1, half, half + 1, half + 2}
	for i := range 16 {
		list = append(list, top*i/16, top*i/16+1)
	}
	slices.Sort(list)
	return slices.Compact(list)
}

// coloursToTry has each of these numbers with each in each place, and others
// between them.
func coloursToTry(d *dice, prec int) [][]int {
	var all [][]int
	tones := tonesToTry(prec)
	for _, a := range tones {
		for _, b := range tones {
			for _, c := range tones {
				all = append(all, []int{a, b, c})
			}
		}
	}
	for range 50000 {
		all = append(all, thrown(d, 3, 0, topOf(prec)))
	}
	return all
}

// eachColour lets do see all colours of 8 bits, those of one first number in
// one goroutine, as long as it finds them good.
func eachColour(do func(px []int) bool) {
	var all sync.WaitGroup
	for a := range 256 {
		all.Add(1)
		go func() {
			defer all.Done()
			px := []int{a, 0, 0}
			for b := range 256 {
				for c := range 256 {
					px[1], px[2] = b, c
					if !do(px) {
						return
					}
				}
			}
		}()
	}
	all.Wait()
}

// The rule's own rounding is that of the document, on both sides of 0.
func TestColourRuleRounds(t *testing.T) {
	d := dice(17)
	for _, by := range []int{256, 150} {
		for n := -5000; n <= 5000; n++ {
			if halfUp(n, by) != ruleRounded(n, by) {
				t.Fatalf("%d by %d: %d, and not %d", n, by, halfUp(n, by), ruleRounded(n, by))
			}
		}
		for range 20000 {
			n := d.below(4000001) - 2000000
			if halfUp(n, by) != ruleRounded(n, by) {
				t.Fatalf("%d by %d: %d, and not %d", n, by, halfUp(n, by), ruleRounded(n, by))
			}
		}
	}
}

func TestToYccByHand(t *testing.T) {
	for _, x := range []struct {
		prec     int
		px, want []int
	}{
		{8, []int{0, 0, 0}, []int{0, 128, 128}},
		{8, []int{1, 1, 1}, []int{1, 128, 128}},
		{8, []int{255, 255, 255}, []int{255, 128, 128}},
		{8, []int{255, 0, 0}, []int{77, 85, 255}},
		{8, []int{0, 255, 0}, []int{149, 44, 21}},
		{8, []int{0, 0, 255}, []int{29, 255, 107}},
		{8, []int{0, 255, 255}, []int{178, 171, 1}},
		{8, []int{255, 0, 255}, []int{106, 212, 235}},
		{8, []int{255, 255, 0}, []int{226, 1, 149}},
		{8, []int{10, 20, 30}, []int{18, 135, 122}},
		{12, []int{0, 0, 0}, []int{0, 2048, 2048}},
		{12, []int{4095, 4095, 4095}, []int{4095, 2048, 2048}},
		{12, []int{4095, 0, 0}, []int{1232, 1355, 4095}},
		{12, []int{0, 4095, 0}, []int{2399, 699, 333}},
		{12, []int{0, 0, 4095}, []int{464, 4090, 1716}},
		{12, []int{0, 4095, 4095}, []int{2863, 2741, 1}},
		{12, []int{4095, 4095, 0}, []int{3631, 6, 2380}},
	} {
		if got := impl.ToYcc(x.prec, x.px); !slices.Equal(got, x.want) {
			t.Errorf("prec %d, %v: %v, and not %v", x.prec, x.px, got, x.want)
		}
	}
}

func TestFromYccByHand(t *testing.T) {
	for _, x := range []struct {
		prec     int
		px, want []int
	}{
		{8, []int{0, 128, 128}, []int{0, 0, 0}},
		{8, []int{100, 128, 128}, []int{100, 100, 100}},
		{8, []int{255, 128, 128}, []int{255, 255, 255}},
		{8, []int{77, 85, 255}, []int{255, 0, 1}},
		{8, []int{29, 255, 107}, []int{0, 0, 254}},
		// Red would be 378 and green 109, were it not brought back ahead of it.
		{8, []int{200, 128, 255}, []int{255, 172, 200}},
		// Red would be -79, and green 192.
		{8, []int{100, 128, 0}, []int{0, 151, 100}},
		// Blue would be 425, blue -127, and green 157 and 144.
		{8, []int{200, 255, 128}, []int{200, 189, 255}},
		{8, []int{100, 0, 128}, []int{100, 119, 0}},
		// Green is brought back by itself, to 0 and to 255.
		{8, []int{0, 128, 200}, []int{101, 0, 0}},
		{8, []int{255, 100, 100}, []int{216, 255, 205}},
		{8, []int{0, 0, 0}, []int{0, 0, 0}},
		{8, []int{255, 255, 255}, []int{255, 255, 255}},
		{12, []int{0, 2048, 2048}, []int{0, 0, 0}},
		{12, []int{4095, 2048, 2048}, []int{4095, 4095, 4095}},
		{12, []int{1232, 1355, 4095}, []int{4095, 0, 3}},
		{12, []int{2000, 2048, 4095}, []int{4095, 925, 2000}},
		{12, []int{2000, 2048, 0}, []int{0, 3027, 2000}},
	} {
		if got := impl.FromYcc(x.prec, x.px); !slices.Equal(got, x.want) {
			t.Errorf("prec %d, %v: %v, and not %v", x.prec, x.px, got, x.want)
		}
	}
}

// furthest is how far two lists are from each other, where they are furthest.
func furthest(a, b []int) int {
	most := 0
	for i, n := range a {
		most = max(most, n-b[i], b[i]-n)
	}
	return most
}

// Promise 17, of the program's own answers alone: all colours there are.
func TestColoursOf8ThereAndBack(t *testing.T) {
	eachColour(func(px []int) bool {
		told := impl.ToYcc(8, px)
		back := impl.FromYcc(8, told)
		grey := px[0] == px[1] && px[1] == px[2]
		good := len(told) == 3 && len(back) == 3 && furthest(px, back) <= 4 && (!grey || slices.Equal(px, back))
		if !good {
			t.Errorf("%v is told as %v and comes back as %v", px, told, back)
		}
		return good
	})
}

func TestGreysThereAndBack(t *testing.T) {
	for _, prec := range []int{8, 12} {
		for n := range topOf(prec) + 1 {
			grey, told := []int{n, n, n}, []int{n, halfOf(prec), halfOf(prec)}
			if got := impl.ToYcc(prec, grey); !slices.Equal(got, told) {
				t.Fatalf("prec %d, %v: %v", prec, grey, got)
			}
			if got := impl.FromYcc(prec, told); !slices.Equal(got, grey) {
				t.Fatalf("prec %d, %v: %v", prec, told, got)
			}
		}
	}
}

func TestColoursOf8ByRule(t *testing.T) {
	for what, x := range turners() {
		eachColour(func(px []int) bool {
			got, want := x.of(8, px), x.rule(8, px)
			if !slices.Equal(got, want) {
				t.Errorf("%s of %v: %v, and not %v", what, px, got, want)
			}
			return slices.Equal(got, want)
		})
	}
}

func TestColoursOf12ByRule(t *testing.T) {
	d := dice(1712)
	for _, px := range coloursToTry(&d, 12) {
		checkBoth(t, 12, px)
	}
}

// isHalf tells whether a sum lies just between two whole numbers.
func isHalf(n, d int) bool { return (2*n+d)%(2*d) == 0 }

// halvesOf counts in which of a colour's sums for a turn there is a half, by
// its place and by its side of 0.
type halvesOf struct{ below, above [3]int }

func (h *halvesOf) count(place, n, d int) {
	switch {
	case !isHalf(n, d):
	case n < 0:
		h.below[place]++
	default:
		h.above[place]++
	}
}

// What is just at a half goes up, on both sides of 0; what is one off it goes
// to the number that is nearer.
func TestToYccHalves(t *testing.T) {
	for _, x := range []struct {
		prec     int
		px, want []int
	}{
		// 77r + 150g + 29b is 127, 128 and 129 more than whole times of 256.
		{8, []int{0, 20, 51}, []int{17, 147, 116}}, {8, []int{7, 50, 45}, []int{37, 133, 107}}, {8, []int{14, 5, 12}, []int{9, 130, 132}}, {8, []int{7, 20, 6}, []int{15, 123, 122}},
		{12, []int{0, 20, 51}, []int{17, 2067, 2036}}, {12, []int{7, 50, 45}, []int{37, 2053, 2027}}, {12, []int{14, 5, 12}, []int{9, 2050, 2052}}, {12, []int{7, 20, 6}, []int{15, 2043, 2042}},
		// b - y is 8, 24, -8 and -24: 4 and a half, 13 and a half, and these below 0.
		{8, []int{0, 0, 9}, []int{1, 133, 127}}, {8, []int{0, 0, 27}, []int{3, 142, 126}},
		{8, []int{0, 14, 0}, []int{8, 124, 122}}, {8, []int{0, 41, 0}, []int{24, 115, 111}},
		// r - y is 128 and -128: 91 and a half, and this below 0.
		{8, []int{183, 0, 0}, []int{55, 97, 220}}, {8, []int{0, 218, 0}, []int{128, 56, 37}},
		{12, []int{183, 0, 0}, []int{55, 2017, 2140}}, {12, []int{0, 218, 0}, []int{128, 1976, 1957}},
	} {
		if got := impl.ToYcc(x.prec, x.px); !slices.Equal(got, x.want) {
			t.Errorf("prec %d, %v: %v, and not %v", x.prec, x.px, got, x.want)
		}
	}
	d, x := dice(1717), turners()["ToYcc"]
	for _, prec := range []int{8, 12} {
		h := halvesOf{}
		for range 200000 {
			px := thrown(&d, 3, 0, topOf(prec))
			y := x.check(t, "ToYcc", prec, px)[0]
			h.count(0, 77*px[0]+150*px[1]+29*px[2], 256)
			h.count(1, 144*(px[2]-y), 256)
			h.count(2, 183*(px[0]-y), 256)
		}
		// No brightness is below 0.
		if h.below[0] != 0 || min(h.above[0], h.above[1], h.above[2], h.below[1], h.below[2]) < 20 {
			t.Errorf("prec %d: the colours say too little: %v", prec, h)
		}
	}
}

func TestFromYccHalves(t *testing.T) {
	for _, x := range []struct {
		prec     int
		px, want []int
	}{
		// u - half is 64 and -64: 113 and a half, and this below 0.
		{8, []int{100, 192, 128}, []int{100, 78, 214}}, {8, []int{200, 64, 128}, []int{200, 222, 87}},
		// v - half is -128: 179 and a half below 0.
		{8, []int{200, 128, 0}, []int{21, 255, 200}},
		// 256y - 77r - 29b is 74, 75 and 76 more than whole times of 150.
		{8, []int{47, 115, 99}, []int{6, 72, 24}}, {8, []int{29, 115, 125}, []int{25, 36, 6}}, {8, []int{29, 170, 138}, []int{43, 8, 103}},
		{12, []int{1000, 2048, 2176}, []int{1180, 908, 1000}}, {12, []int{1000, 2048, 1920}, []int{821, 1092, 1000}},
		{12, []int{1000, 2112, 2048}, []int{1000, 978, 1114}}, {12, []int{1000, 1984, 2048}, []int{1000, 1022, 887}},
	} {
		if got := impl.FromYcc(x.prec, x.px); !slices.Equal(got, x.want) {
			t.Errorf("prec %d, %v: %v, and not %v", x.prec, x.px, got, x.want)
		}
	}
	// Whether a green below 0 was rounded up or down is not to be seen.
	d, x := dice(1718), turners()["FromYcc"]
	for _, prec := range []int{8, 12} {
		h := halvesOf{}
		for range 200000 {
			px := thrown(&d, 3, 0, topOf(prec))
			px[0] = topOf(prec)/4 + px[0]/2
			if d.below(2) == 0 {
				px[1] = px[1] / 64 * 64
			} else if d.below(2) == 0 {
				px[2] = px[2] / 128 * 128
			}
			got := x.check(t, "FromYcc", prec, px)
			if between(1, topOf(prec)-1, got[0]) {
				h.count(0, 359*(px[2]-halfOf(prec)), 256)
			}
			if between(1, topOf(prec)-1, got[2]) {
				h.count(2, 454*(px[1]-halfOf(prec)), 256)
			}
			if between(1, topOf(prec)-1, got[1]) {
				h.count(1, 256*px[0]-77*got[0]-29*got[2], 150)
			}
		}
		// Of 8 bits v - half is no more than 127, and there is no half above 0.
		if prec == 8 {
			h.above[0] = 20
		}
		if min(h.above[0], h.above[1], h.above[2], h.below[0], h.below[2]) < 20 {
			t.Errorf("prec %d: the colours say too little: %v", prec, h)
		}
	}
}

// The numbers of FromYcc that are brought back: each from below 0 and from
// above the top, and green from what the others are then.
func TestFromYccBroughtBack(t *testing.T) {
	d, x := dice(1719), turners()["FromYcc"]
	for _, prec := range []int{8, 12} {
		below, above, other := [3]int{}, [3]int{}, 0
		for _, px := range coloursToTry(&d, prec) {
			got := x.check(t, "FromYcc", prec, px)
			if !between(0, topOf(prec), got...) {
				t.Fatalf("prec %d, %v: %v", prec, px, got)
			}
			r, b := ruleRedBlue(prec, px)
			for i, n := range []int{r, ruleGreen(px[0], got[0], got[2]), b} {
				if n < 0 {
					below[i]++
				}
				if n > topOf(prec) {
					above[i]++
				}
			}
			if got[1] != broughtBack(prec, ruleGreen(px[0], r, b)) {
				other++
			}
		}
		if min(other, below[0], below[1], below[2], above[0], above[1], above[2]) < 100 {
			t.Errorf("prec %d: the colours say too little: %v, %v, %d", prec, below, above, other)
		}
	}
}

// No number of ToYcc has ever to be brought back: the least and the greatest
// that come are those of the colours whose numbers are all 0 or the top.
func TestToYccComesToItsLimits(t *testing.T) {
	d := dice(1720)
	for _, x := range []struct{ prec, low, high int }{{8, 1, 255}, {12, 1, 4095}} {
		low, high := math.MaxInt, math.MinInt
		for _, px := range coloursToTry(&d, x.prec) {
			got := impl.ToYcc(x.prec, px)
			if !slices.Equal(got, ruleAway(x.prec, px)) || !between(0, topOf(x.prec), got...) {
				t.Fatalf("prec %d, %v: %v", x.prec, px, got)
			}
			low, high = min(low, got[1], got[2]), max(high, got[1], got[2])
		}
		if low != x.low || high != x.high {
			t.Errorf("prec %d: from %d to %d", x.prec, low, high)
		}
	}
}

func TestColourPrecs(t *testing.T) {
	for _, px := range [][]int{{0, 0, 0}, {1, 1, 1}, {0, 1, 2}, {7, 128, 255}, {255, 255, 255}} {
		for prec := -70; prec <= 300; prec++ {
			if prec == 8 || prec == 12 {
				if len(impl.ToYcc(prec, px)) != 3 || len(impl.FromYcc(prec, px)) != 3 {
					t.Errorf("prec %d, %v: nothing", prec, px)
				}
				checkBoth(t, prec, px)
			} else {
				checkNoColour(t, prec, px)
			}
		}
		for _, prec := range append(far(), 1<<32+12, 1<<16+8, 1<<16+12, 1<<63-8, 8-1<<32, 12-1<<32) {
			checkNoColour(t, prec, px)
		}
	}
}

func TestColourLengths(t *testing.T) {
	for _, prec := range []int{8, 12} {
		for n := range 200 {
			for _, k := range []int{0, 1, 255} {
				px := cycled(n, k)
				if n == 3 {
					if len(impl.ToYcc(prec, px)) != 3 || len(impl.FromYcc(prec, px)) != 3 {
						t.Errorf("prec %d, %v: nothing", prec, px)
					}
					checkBoth(t, prec, px)
				} else {
					checkNoColour(t, prec, px)
				}
			}
		}
		checkNoColour(t, prec, nil)
	}
}

// Each number by itself: what is at a limit and one past it.
func TestColourNumbers(t *testing.T) {
	for _, prec := range []int{8, 12} {
		top := topOf(prec)
		for at := range 3 {
			for _, others := range []int{0, 1, halfOf(prec), top - 1, top} {
				px := []int{others, others, others}
				for _, n := range []int{0, 1, top - 1, top} {
					if len(impl.ToYcc(prec, with(px, at, n))) != 3 || len(impl.FromYcc(prec, with(px, at, n))) != 3 {
						t.Errorf("prec %d, %v: nothing", prec, with(px, at, n))
					}
					checkBoth(t, prec, with(px, at, n))
				}
				for _, n := range []int{-2, top + 2, 1<<16 + 1, -1 << 32, -1<<32 + 1, 1<<62 + 1, 4096, 65536} {
					checkNoColour(t, prec, with(px, at, n))
				}
				checkNoColour(t, prec, with(px, at, -1))
				checkNoColour(t, prec, with(px, at, top+1))
				for _, n := range far() {
					if !between(0, top, n) {
						checkNoColour(t, prec, with(px, at, n))
					}
				}
			}
		}
	}
}

// Whatever comes: both functions answer, and by the rule.
func TestColoursOfAnything(t *testing.T) {
	d, taken := dice(1721), 0
	strange := append(far(), 0, 1, 127, 128, 254, 255, 256, 2047, 2048, 4094, 4095, 4096)
	for range 50000 {
		prec := []int{8, 12, 8, 12, 8, 12, 7, 9, 11, 13, 0, strange[d.below(len(strange))]}[d.below(12)]
		px := thrown(&d, []int{3, 3, 3, 3, 3, 0, 1, 2, 4, 5}[d.below(10)], 0, []int{255, 4095}[d.below(2)])
		if len(px) > 0 && d.below(4) == 0 {
			px[d.below(len(px))] = strange[d.below(len(strange))]
		}
		checkBoth(t, prec, px)
		if pixelRule(prec, px) {
			taken++
		}
	}
	if !between(5000, 45000, taken) {
		t.Error("the colours say too little", taken)
	}
}

// wrongColours are pixels that neither prec has.
func wrongColours() [][]int {
	return [][]int{nil, {}, {1}, {1, 2}, {1, 2, 3, 4}, {-1, 0, 0}, {0, -1, 0}, {0, 0, -1}, {4096, 0, 0}, {0, 4096, 0}, {0, 0, 4096}, {math.MinInt, 0, math.MaxInt}}
}

// What lies behind a list's length is neither read nor written: not a third
// number behind two, nor a fourth behind three.
func TestColoursLeaveArguments(t *testing.T) {
	d := dice(1722)
	all := append(wrongColours(), []int{0, 0, 0}, []int{255, 255, 255}, []int{77, 85, 255}, []int{0, 255, 0})
	for range 50 {
		all = append(all, thrown(&d, 3, 0, 255))
	}
	for _, px := range all {
		for _, behind := range [][]int{nil, {5}, {5, 6}, {0, 0, 0}, {-1, 4096, math.MinInt}, flat(9)} {
			for _, prec := range []int{8, 12, 7, 0, -1} {
				for what, x := range turners() {
					g := guard(px, behind...)
					x.check(t, what, prec, g.list)
					g.check(t, what)
				}
			}
		}
	}
}

// Each answer is asked for twice, one of them and the argument written over.
func TestColoursAreNewMemory(t *testing.T) {
	d := dice(1723)
	for what, x := range turners() {
		for _, prec := range []int{8, 12} {
			for range 50 {
				px := thrown(&d, 3, 0, topOf(prec))
				own, want := slices.Clone(px), x.rule(prec, px)
				a, b := x.of(prec, own), x.of(prec, own)
				scribble(a, 7)
				if !slices.Equal(own, px) {
					t.Fatalf("%s of %v: the answer shares memory with the pixel", what, px)
				}
				scribble(own, 8)
				if !slices.Equal(b, want) || !slices.Equal(x.of(prec, px), want) {
					t.Fatalf("%s of %v: an answer shares memory with another one or with the pixel", what, px)
				}
			}
		}
	}
}

// The same arguments give the same answers, whatever was asked for between and
// in whichever order, and asked from many goroutines at once: these are the
// first to ask, where this test runs by itself.
func TestColoursAtOnce(t *testing.T) {
	d := dice(1724)
	pixels := append(wrongColours(), []int{0, 0, 0}, []int{255, 255, 255}, []int{4095, 4095, 4095})
	for range 300 {
		pixels = append(pixels, thrown(&d, 3, 0, 255), thrown(&d, 3, 0, 4095))
	}
	var all sync.WaitGroup
	for worker := range 8 {
		all.Add(1)
		go func() {
			defer all.Done()
			for i := range pixels {
				px := pixels[(i+worker*70)%len(pixels)]
				for what, x := range turners() {
					for _, prec := range []int{12, 8, 9} {
						if got, want := x.of(prec, px), x.rule(prec, px); !slices.Equal(got, want) {
							t.Errorf("at once: %s of prec %d and %v: %v, and not %v", what, prec, px, got, want)
						}
					}
				}
			}
		}()
	}
	all.Wait()
	for range 3 {
		slices.Reverse(pixels)
		for _, px := range pixels {
			for _, prec := range []int{8, 9, 12} {
				checkBoth(t, prec, px)
			}
		}
	}
}

// beginsBy names what a process of its own is told by, how it begins.
const beginsBy = "COLOURS_BEGIN"

// inNewProcess runs this test alone in a process of its own, in which nobody
// asked for anything yet, and tells it how to begin.
func inNewProcess(t *testing.T, begin string) {
	t.Helper()
	ask := exec.Command(os.Args[0], "-test.run=^"+t.Name()+"$", "-test.v", "-test.timeout=5m")
	ask.Env = append(os.Environ(), beginsBy+"="+begin)
	out, err := ask.CombinedOutput()
	if err != nil || !strings.Contains(string(out), "--- PASS: "+t.Name()) {
		t.Errorf("begun by %s: %v\n%s", begin, err, out)
	}
}

// pixelsToTurn are a few of all kinds, some that are none among them.
func pixelsToTurn() [][]int {
	d := dice(1725)
	pixels := append(wrongColours(), []int{0, 0, 0}, []int{255, 255, 255}, []int{4095, 4095, 4095}, []int{77, 85, 255})
	for range 40 {
		pixels = append(pixels, thrown(&d, 3, 0, 255), thrown(&d, 3, 0, 4095))
	}
	return pixels
}

// eachTurn is what ask answers of each of the pixels and of each prec, and of
// one that is none.
func eachTurn(ask func(prec int, px []int) []int, pixels [][]int) [][]int {
	var all [][]int
	for _, px := range pixels {
		for _, prec := range []int{8, 12, 9} {
			all = append(all, ask(prec, px))
		}
	}
	return all
}

// checkTurns asks all of a turn, and answers it.
func checkTurns(t *testing.T, when, what string) [][]int {
	t.Helper()
	x, pixels := turners()[what], pixelsToTurn()
	got := eachTurn(x.of, pixels)
	if !sameBlocks(got, eachTurn(x.rule, pixels)) {
		t.Errorf("%s: %s answers otherwise than the chapter says", when, what)
	}
	return got
}

// checkAheadAndBehind asks FromYcc ahead of the first call of ToYcc, and both
// turns behind it; this call too answers as it does later.
func checkAheadAndBehind(t *testing.T, prec int, px []int) {
	ahead := checkTurns(t, "ahead of the first ToYcc", "FromYcc")
	first := impl.ToYcc(prec, px)
	behind := checkTurns(t, "behind the first ToYcc", "FromYcc")
	if !sameBlocks(ahead, behind) {
		t.Error("FromYcc answers otherwise behind the first ToYcc than ahead of it")
	}
	checkFirst(t, prec, px, first)
}

// checkFirst asks ToYcc for what its first call answered.
func checkFirst(t *testing.T, prec int, px, first []int) {
	checkTurns(t, "behind the first ToYcc", "ToYcc")
	if again := impl.ToYcc(prec, px); !slices.Equal(first, again) || !slices.Equal(first, ruleToYcc(prec, px)) {
		t.Errorf("ToYcc of prec %d and %v: %v at first, and then %v", prec, px, first, again)
	}
}

// checkFirstAtOnce asks both turns from goroutines that all begin together: one
// of them is the first to ask.
func checkFirstAtOnce(t *testing.T) {
	begin := make(chan struct{})
	var all sync.WaitGroup
	for worker := range 12 {
		all.Add(1)
		go func() {
			defer all.Done()
			<-begin
			if worker%3 == 2 {
				checkColouredAtOnce(t)
			}
			for i := range 2 {
				checkTurns(t, "at once", []string{"ToYcc", "FromYcc"}[(worker+i)%2])
			}
		}()
	}
	close(begin)
	all.Wait()
	checkTurns(t, "behind all of them", "ToYcc")
	checkTurns(t, "behind all of them", "FromYcc")
}

// checkColoured holds a stream and a picture in colour against the chapters'
// words, without asking the program for a colour.
func checkColoured(t *testing.T, a pictureAsked) {
	p, o := a.p, a.o
	p.Planes = eachPixel(p.Planes, func(px []int) []int { return ruleToYcc(p.Prec, px) })
	o.Colour = false
	if plain := impl.StreamFor(p, o); !sameCoefs(a.s.Coefs, plain.Coefs) {
		t.Errorf("prec %d: another stream than the chapters say", p.Prec)
	}
	plain := impl.PictureOf(altered(a.s, func(s *impl.Stream) { s.Frame.Comps[0].Id = 1 }))
	plain.Planes = eachPixel(plain.Planes, func(px []int) []int { return ruleFromYcc(p.Prec, px) })
	if !samePicture(a.back, plain) {
		t.Errorf("prec %d: another picture than the chapters say", p.Prec)
	}
}

// checkPicturesFirst asks for pictures in colour ahead of the first call of
// ToYcc, and for the same behind it.
func checkPicturesFirst(t *testing.T) {
	d := dice(1726)
	var list []pictureAsked
	for _, prec := range []int{8, 12} {
		a := pictureAsked{p: drawnPicture(&d, prec, 20, 9, 3), o: impl.Options{Quality: 80, Colour: true, Half: prec == 8}}
		a.f, a.s, a.b = impl.FrameFor(a.p, a.o), impl.StreamFor(a.p, a.o), impl.Compress(a.p, a.o)
		a.back = impl.PictureOf(a.s)
		checkColoured(t, a)
		list = append(list, a)
	}
	checkTurns(t, "behind pictures", "ToYcc")
	checkTurns(t, "behind pictures", "FromYcc")
	for _, a := range list {
		if !a.same() {
			t.Errorf("prec %d: other answers behind the first ToYcc than ahead of it", a.p.Prec)
		}
	}
}

// checkColouredAtOnce asks for one picture in colour: red, which is told by
// hand.
func checkColouredAtOnce(t *testing.T) {
	s := impl.StreamFor(tonesPicture(8, 1, 1, 255, 0, 0), impl.Options{Quality: 100, Colour: true})
	if s.Coefs.Planes[0][0][0] != -408 || s.Coefs.Planes[1][0][0] != -344 || s.Coefs.Planes[2][0][0] != 1016 {
		t.Error("at once: another stream", s.Coefs.Planes)
	}
	if got := impl.PictureOf(s); !samePicture(got, tonesPicture(8, 1, 1, 255, 0, 1)) {
		t.Error("at once: another picture", got)
	}
}

// beginnings are the ways in which a process begins to ask for colours.
func beginnings() map[string]func(t *testing.T) {
	m := map[string]func(t *testing.T){
		"pictures, then ToYcc":  checkPicturesFirst,
		"FromYcc, then 8 bits":  func(t *testing.T) { checkAheadAndBehind(t, 8, []int{255, 0, 0}) },
		"FromYcc, then 12 bits": func(t *testing.T) { checkAheadAndBehind(t, 12, []int{1, 4095, 7}) },
		"FromYcc, then no prec": func(t *testing.T) { checkAheadAndBehind(t, 9, []int{1, 2, 3}) },
	}
	for what, x := range map[string]struct {
		prec int
		px   []int
	}{
		"ToYcc of 8 bits":    {8, []int{0, 255, 0}},
		"ToYcc of 12 bits":   {12, []int{4095, 0, 0}},
		"ToYcc of no prec":   {0, []int{0, 0, 0}},
		"ToYcc of no pixel":  {8, nil},
		"ToYcc of no number": {12, []int{0, 0, 4096}},
	} {
		m[what] = func(t *testing.T) {
			first := impl.ToYcc(x.prec, x.px)
			checkFirst(t, x.prec, x.px, first)
			checkTurns(t, "behind the first ToYcc", "FromYcc")
		}
	}
	for i := range 8 {
		m["at once "+strconv.Itoa(i)] = checkFirstAtOnce
	}
	return m
}

// What is answered does not hang on whether anybody asked ahead: neither ahead
// of the first call, nor by it, nor behind it, nor where many are the first.
func TestColoursAtOnceFromTheFirstCall(t *testing.T) {
	if begin := os.Getenv(beginsBy); begin != "" {
		beginnings()[begin](t)
		return
	}
	var all sync.WaitGroup
	for begin := range beginnings() {
		all.Add(1)
		go func() {
			defer all.Done()
			inNewProcess(t, begin)
		}()
	}
	all.Wait()
}
