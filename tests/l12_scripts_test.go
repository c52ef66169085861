package tests

import (
	"math"
	"slices"
	"strconv"
	"testing"

	"loop.example/g00139/impl"
)

// firstScan is a first pass, fineScan a refining one.
func firstScan(from, to, low int, comps ...int) impl.Scan {
	return impl.Scan{Comps: comps, From: from, To: to, Low: low}
}

func fineScan(from, to, low int, comps ...int) impl.Scan {
	return impl.Scan{Comps: comps, From: from, To: to, High: low + 1, Low: low}
}

// upTo are the components from 0 on, n of them.
func upTo(n int) []int {
	var list []int
	for i := range n {
		list = append(list, i)
	}
	return list
}

// fieldsRule tells of all but the Comps of a scan whether they are as ScanOk
// wants them.
func fieldsRule(s impl.Scan) bool {
	if !between(0, 63, s.From, s.To) || s.To-s.From < 0 || !between(0, 13, s.Low) {
		return false
	}
	return slices.Contains([]int{0, s.Low + 1}, s.High)
}

func scanRule(f impl.Frame, s impl.Scan) bool {
	return frameRule(f) && isRising(s.Comps, len(f.Comps)) && fieldsRule(s)
}

// ruleWave is what the scans of a script tell of one wave, gone through by
// itself; false where one of them cannot come.
func ruleWave(script []impl.Scan, comp, k int) (int, bool) {
	told := []int{-1}
	for _, s := range script {
		if !slices.Contains(s.Comps, comp) || !between(s.From, s.To, k) {
			continue
		}
		need := -1
		if s.High != 0 {
			need = s.High
		}
		if told[len(told)-1] != need {
			return 0, false
		}
		told = append(told, s.Low)
	}
	return told[len(told)-1], true
}

// ruleLeft is LeftOf by another way than the program's: wave by wave.
func ruleLeft(f impl.Frame, script []impl.Scan) [][]int {
	if !frameRule(f) || len(script) > 40 {
		return nil
	}
	for _, s := range script {
		if !scanRule(f, s) {
			return nil
		}
	}
	var all [][]int
	for comp := range f.Comps {
		var bits []int
		for k := range 64 {
			bit, ok := ruleWave(script, comp, k)
			if !ok {
				return nil
			}
			bits = append(bits, bit)
		}
		all = append(all, bits)
	}
	return all
}

func tellsAll(left [][]int) bool {
	return len(left) > 0 && !slices.ContainsFunc(left, func(bits []int) bool { return !slices.Equal(bits, flat(0)) })
}

// ruleScriptFor has the scans of the three kinds, laid out one by one.
func ruleScriptFor(f impl.Frame, kind int) []impl.Scan {
	if !frameRule(f) {
		return nil
	}
	n := len(f.Comps)
	var list []impl.Scan
	each := func(from, to, high, low int) {
		for comp := range n {
			list = append(list, impl.Scan{Comps: []int{comp}, From: from, To: to, High: high, Low: low})
		}
	}
	switch kind {
	case 0:
		list = append(list, impl.Scan{Comps: upTo(n), From: 0, To: 63})
	case 1:
		each(0, 63, 0, 0)
	case 2:
		list = append(list, impl.Scan{Comps: upTo(n), From: 0, To: 0, High: 0, Low: 1})
		for comp := range n {
			list = append(list, impl.Scan{Comps: []int{comp}, From: 1, To: 5, High: 0, Low: 2})
			list = append(list, impl.Scan{Comps: []int{comp}, From: 6, To: 63, High: 0, Low: 2})
		}
		each(1, 63, 2, 1)
		list = append(list, impl.Scan{Comps: upTo(n), From: 0, To: 0, High: 1, Low: 0})
		each(1, 63, 1, 0)
	}
	return list
}

func sameScan(a, b impl.Scan) bool {
	return slices.Equal(a.Comps, b.Comps) && a.From == b.From && a.To == b.To && a.High == b.High && a.Low == b.Low
}

func sameScript(a, b []impl.Scan) bool { return slices.EqualFunc(a, b, sameScan) }

func cloneScript(script []impl.Scan) []impl.Scan {
	var out []impl.Scan
	for _, s := range script {
		s.Comps = slices.Clone(s.Comps)
		out = append(out, s)
	}
	return out
}

// then is a script with more scans behind it, in new memory.
func then(script []impl.Scan, more ...impl.Scan) []impl.Scan { return slices.Concat(script, more) }

// checkScript asks of a script what the rule says of it.
func checkScript(t *testing.T, what string, f impl.Frame, script []impl.Scan) [][]int {
	t.Helper()
	want := ruleLeft(f, script)
	if got := impl.LeftOf(f, script); !sameBlocks(got, want) {
		t.Fatalf("%s: %d components, %v: LeftOf is %v, and not %v", what, len(f.Comps), script, got, want)
	}
	if got := impl.ScriptOk(f, script); got != tellsAll(want) {
		t.Fatalf("%s: %d components, %v: ScriptOk is %v", what, len(f.Comps), script, got)
	}
	return want
}

// checkTold asks that a script can be told, checkNotTold that it cannot.
func checkTold(t *testing.T, what string, f impl.Frame, script []impl.Scan) {
	t.Helper()
	if len(checkScript(t, what, f, script)) == 0 {
		t.Fatalf("%s: %d components, %v: nothing", what, len(f.Comps), script)
	}
}

func checkNotTold(t *testing.T, what string, f impl.Frame, script []impl.Scan) {
	t.Helper()
	if len(checkScript(t, what, f, script)) != 0 {
		t.Fatalf("%s: %d components, %v: told", what, len(f.Comps), script)
	}
}

func checkScan(t *testing.T, f impl.Frame, s impl.Scan) {
	t.Helper()
	if got := impl.ScanOk(f, s); got != scanRule(f, s) {
		t.Fatalf("%d components, %v: ScanOk is %v", len(f.Comps), s, got)
	}
}

// drawnSpan is a place and another one that is not ahead of it, often edges.
func drawnSpan(d *dice) (int, int) {
	edges := []int{0, 0, 1, 5, 6, 31, 62, 63, 63, d.below(64)}
	a, b := edges[d.below(len(edges))], edges[d.below(len(edges))]
	return min(a, b), max(a, b)
}

// drawnScan may come behind a script of which this is left, now and then.
func drawnScan(d *dice, f impl.Frame, left [][]int) impl.Scan {
	sets := risingComps(len(f.Comps))
	s := impl.Scan{Comps: sets[d.below(len(sets))]}
	s.From, s.To = drawnSpan(d)
	here := left[s.Comps[0]][s.From]
	switch {
	case d.below(8) == 0:
		s.Low = d.below(14)
		s.High = d.below(2) * (s.Low + 1)
	case here < 0:
		s.Low = d.below(14)
	case here > 0:
		s.High, s.Low = here, here-1
	}
	return s
}

// grown is a script of at most n scans each of which may come: of the scans
// that are drawn those that cannot are left out.
func grown(d *dice, f impl.Frame, n int) []impl.Scan {
	var script []impl.Scan
	left := ruleLeft(f, nil)
	for range 3 * n {
		longer := then(script, drawnScan(d, f, left))
		if now := ruleLeft(f, longer); len(now) > 0 && len(longer) <= n {
			script, left = longer, now
		}
	}
	return script
}

// wholeScript is a script that tells all of a frame, drawn: the components fall
// into at most two sets, the places into two spans, and each of these is told
// down to 0 by at most ten scans, in turns that are drawn too.
func wholeScript(d *dice, f impl.Frame) []impl.Scan {
	cut := 1 + d.below(len(f.Comps))
	sets := [][]int{upTo(len(f.Comps))[:cut], upTo(len(f.Comps))[cut:]}
	middle := d.below(63)
	var next []impl.Scan
	for _, set := range sets {
		if len(set) > 0 {
			next = append(next, firstScan(0, middle, d.below(10), set...), firstScan(middle+1, 63, d.below(10), set...))
		}
	}
	var script []impl.Scan
	for len(next) > 0 {
		at := d.below(len(next))
		s := next[at]
		script = append(script, s)
		if s.Low == 0 {
			next = slices.Delete(next, at, at+1)
			continue
		}
		s.High, s.Low = s.Low, s.Low-1
		next[at] = s
	}
	return script
}

// singlePlaces are n first passes of one place each, of component 0.
func singlePlaces(n int) []impl.Scan {
	var list []impl.Scan
	for k := range n {
		list = append(list, firstScan(k, k, 0, 0))
	}
	return list
}

// toldBut are scans that tell all waves of n components down to bit low, but
// for that at place k of one component, of which nothing is told.
func toldBut(n, comp, k, low int) []impl.Scan {
	var list []impl.Scan
	for c := range n {
		switch {
		case c != comp:
			list = append(list, firstScan(0, 63, low, c))
		default:
			if k > 0 {
				list = append(list, firstScan(0, k-1, low, c))
			}
			if k < 63 {
				list = append(list, firstScan(k+1, 63, low, c))
			}
		}
	}
	return list
}

// waveToBit is how one wave is told, in one pass or in two, down to a bit.
func waveToBit(comp, k, bit int) [][]impl.Scan {
	ways := [][]impl.Scan{{firstScan(k, k, bit, comp)}}
	if bit < impl.MaxLow {
		ways = append(ways, []impl.Scan{firstScan(k, k, bit+1, comp), fineScan(k, k, bit, comp)})
	}
	return ways
}

// badScans are scans that are not ScanOk for n components, each by one field
// or list alone.
func badScans(n int) map[string]impl.Scan {
	all := upTo(n)
	return map[string]impl.Scan{
		"the zero Scan":            {},
		"no components":            {Comps: []int{}, From: 3, To: 5},
		"component -1":             firstScan(0, 63, 0, -1),
		"one past the last":        firstScan(0, 63, 0, n),
		"all and one past them":    firstScan(0, 63, 0, append(slices.Clone(all), n)...),
		"-1 and all":               firstScan(0, 63, 0, append([]int{-1}, all...)...),
		"a component twice":        firstScan(0, 63, 0, 0, 0),
		"the last one twice":       firstScan(0, 63, 0, append(slices.Clone(all), n-1)...),
		"the last one ahead":       firstScan(0, 63, 0, append([]int{n - 1}, all...)...),
		"From -1":                  firstScan(-1, 63, 0, 0),
		"To 64":                    firstScan(0, 64, 0, 0),
		"From behind To":           firstScan(5, 4, 0, 0),
		"From 64 and To 64":        firstScan(64, 64, 0, 0),
		"From -1 and To -1":        firstScan(-1, -1, 0, 0),
		"Low -1":                   firstScan(0, 63, -1, 0),
		"Low one past MaxLow":      firstScan(0, 63, 14, 0),
		"Low and High past MaxLow": fineScan(0, 63, 14, 0),
		"High below 0":             {Comps: []int{0}, To: 63, High: -1},
		"High is Low":              {Comps: []int{0}, To: 63, High: 1, Low: 1},
		"High is Low and two":      {Comps: []int{0}, To: 63, High: 2},
		"High is below Low":        {Comps: []int{0}, To: 63, High: 2, Low: 5},
		"High is one below Low":    {Comps: []int{0}, To: 63, High: 4, Low: 5},
	}
}

func TestScriptConstants(t *testing.T) {
	if impl.MaxScans != 40 || impl.MaxLow != 13 {
		t.Fatal(impl.MaxScans, impl.MaxLow)
	}
}

func TestScriptsByHand(t *testing.T) {
	f := plainFrame(2)
	// Two places of both, the first made finer of the second one alone.
	l := impl.LeftOf(f, []impl.Scan{
		{Comps: []int{0, 1}, From: 3, To: 4, Low: 13},
		{Comps: []int{1}, From: 3, To: 3, High: 13, Low: 12},
		{Comps: []int{1}, From: 63, To: 63, Low: 5},
	})
	first, second := with(with(flat(-1), 3, 13), 4, 13), with(with(with(flat(-1), 3, 12), 4, 13), 63, 5)
	if len(l) != 2 || !slices.Equal(l[0], first) || !slices.Equal(l[1], second) {
		t.Fatal(l)
	}
	if l = impl.LeftOf(f, nil); len(l) != 2 || !slices.Equal(l[0], flat(-1)) || !slices.Equal(l[1], flat(-1)) {
		t.Fatal(l)
	}
	if !impl.ScriptOk(f, []impl.Scan{{Comps: []int{0}, To: 63}, {Comps: []int{1}, To: 63, Low: 1}, {Comps: []int{1}, To: 63, High: 1}}) {
		t.Fatal("all is told")
	}
	// The last scan comes a bit too early, or too late.
	for _, low := range []int{0, 2} {
		script := []impl.Scan{{Comps: []int{0}, To: 63}, {Comps: []int{1}, To: 63, Low: 2}, {Comps: []int{1}, To: 63, High: low + 1, Low: low}}
		if impl.ScriptOk(f, script) || len(impl.LeftOf(f, script)) != 0 {
			t.Fatal(script)
		}
	}
}

func TestScanOkComps(t *testing.T) {
	for n := 1; n <= impl.MaxComps; n++ {
		f, taken := plainFrame(n), 0
		lists := [][]int{nil}
		for range impl.MaxComps + 2 {
			var longer [][]int
			for _, list := range lists {
				s := firstScan(0, 63, 0, list...)
				checkScan(t, f, s)
				if impl.ScanOk(f, s) {
					taken++
				}
				for comp := -1; comp <= n; comp++ {
					longer = append(longer, slices.Concat(list, []int{comp}))
				}
			}
			lists = longer
		}
		if taken != 1<<n-1 {
			t.Fatal(n, taken)
		}
		for _, far := range append(far(), 100, 1<<32+n-1) {
			checkScan(t, f, firstScan(0, 63, 0, far))
			checkScan(t, f, firstScan(0, 63, 0, 0, far))
			checkScan(t, f, firstScan(0, 63, 0, far, 0))
		}
		checkScan(t, f, firstScan(0, 63, 0, upTo(1000)...))
	}
}

func TestScanOkPlaces(t *testing.T) {
	f, taken := plainFrame(2), 0
	for from := -2; from <= 66; from++ {
		for to := -2; to <= 66; to++ {
			for _, s := range []impl.Scan{firstScan(from, to, 0, 1), fineScan(from, to, 13, 0, 1)} {
				checkScan(t, f, s)
				if impl.ScanOk(f, s) {
					taken++
				}
			}
		}
	}
	if taken != 2*64*65/2 {
		t.Fatal(taken)
	}
	for _, n := range far() {
		for _, s := range []impl.Scan{firstScan(n, 63, 0, 0), firstScan(0, n, 0, 0), firstScan(n, n, 0, 0), firstScan(n, -n, 0, 0), firstScan(-n, n, 0, 0)} {
			if checkScan(t, f, s); impl.ScanOk(f, s) {
				t.Fatal(s)
			}
		}
	}
}

func TestScanOkBits(t *testing.T) {
	f, taken := plainFrame(3), 0
	for low := -3; low <= 18; low++ {
		for high := -3; high <= 20; high++ {
			s := impl.Scan{Comps: []int{1}, From: 1, To: 63, High: high, Low: low}
			checkScan(t, f, s)
			if impl.ScanOk(f, s) {
				taken++
			}
		}
	}
	if taken != 2*14 {
		t.Fatal(taken)
	}
	for _, n := range far() {
		for _, m := range append(far(), 0, 1, 13, 14) {
			for _, s := range []impl.Scan{{Comps: []int{0}, High: m, Low: n}, {Comps: []int{0}, High: n, Low: m}, {Comps: []int{0}, High: n + 1, Low: n}} {
				if checkScan(t, f, s); impl.ScanOk(f, s) {
					t.Fatal(s)
				}
			}
		}
	}
	// One more than the greatest number is the least.
	if impl.ScanOk(f, impl.Scan{Comps: []int{0}, High: math.MinInt, Low: math.MaxInt}) {
		t.Fatal("a High that wraps round")
	}
}

func TestScansOfFrames(t *testing.T) {
	for what, f := range goodFrames() {
		for _, comps := range risingComps(impl.MaxComps) {
			checkScan(t, f, firstScan(0, 63, 13, comps...))
			checkScan(t, f, fineScan(63, 63, 13, comps...))
		}
		for bad, s := range badScans(len(f.Comps)) {
			if impl.ScanOk(f, s) {
				t.Fatal(what, bad)
			}
		}
		checkTold(t, what, f, nil)
		checkTold(t, what, f, []impl.Scan{firstScan(0, 63, 0, upTo(len(f.Comps))...)})
	}
}

// With a frame that is none nothing is told, whatever the script.
func TestScriptsOfNoFrame(t *testing.T) {
	for what, f := range wrongFrames() {
		for _, s := range []impl.Scan{{}, firstScan(0, 63, 0, 0), firstScan(0, 0, 0, upTo(len(f.Comps))...), fineScan(0, 63, 0, 0)} {
			if impl.ScanOk(f, s) {
				t.Fatal(what, s)
			}
			checkNotTold(t, what, f, []impl.Scan{s})
		}
		checkNotTold(t, what, f, nil)
		for kind := range 3 {
			if got := impl.ScriptFor(f, kind); len(got) != 0 {
				t.Fatal(what, kind, got)
			}
			checkNotTold(t, what, f, ruleScriptFor(plainFrame(1), kind))
		}
	}
}

func TestLeftOfNoScan(t *testing.T) {
	for n := 1; n <= impl.MaxComps; n++ {
		for _, script := range [][]impl.Scan{nil, {}} {
			got := impl.LeftOf(plainFrame(n), script)
			if len(got) != n || slices.ContainsFunc(got, func(bits []int) bool { return !slices.Equal(bits, flat(-1)) }) {
				t.Fatal(n, got)
			}
			if impl.ScriptOk(plainFrame(n), script) {
				t.Fatal(n, "the empty script")
			}
		}
	}
}

// One scan, of all sets of components, with all spans of one of them.
func TestLeftOfOneScan(t *testing.T) {
	for n := 1; n <= impl.MaxComps; n++ {
		f := plainFrame(n)
		for _, comps := range risingComps(n) {
			for low := range impl.MaxLow + 1 {
				for _, span := range [][2]int{{0, 0}, {0, 63}, {63, 63}, {1, 5}, {6, 63}, {0, 62}, {31, 32}} {
					checkTold(t, "first", f, []impl.Scan{firstScan(span[0], span[1], low, comps...)})
					checkNotTold(t, "refining", f, []impl.Scan{fineScan(span[0], span[1], low, comps...)})
				}
			}
		}
	}
	for from := range 64 {
		for to := from; to < 64; to++ {
			checkTold(t, "span", plainFrame(2), []impl.Scan{firstScan(from, to, from%14, 1)})
		}
	}
}

// Scans that tell parts of the places and of the components, each with what
// was told of the others ahead.
func TestLeftOfParts(t *testing.T) {
	for n := 1; n <= impl.MaxComps; n++ {
		f := plainFrame(n)
		var script []impl.Scan
		for comp := range n {
			for i, span := range [][2]int{{0, 0}, {1, 5}, {6, 20}, {22, 63}} {
				script = append(script, firstScan(span[0], span[1], 3*i+comp, comp))
				checkTold(t, "parts", f, script)
			}
		}
		for comp := range n {
			script = append(script, fineScan(2, 5, 2+comp, comp))
			checkTold(t, "finer parts", f, script)
		}
		// Place 21 is the only one of which nothing was told.
		for k := range 64 {
			s := firstScan(k, k, 4, upTo(n)...)
			if told := len(checkScript(t, "one more", f, then(script, s))) > 0; told != (k == 21) {
				t.Fatal(n, k, told)
			}
		}
	}
}

// spansFor are spans of which one place is the first, the last or one between,
// and spans that end ahead of it or begin behind it.
func spansFor(k int) map[string][2]int {
	m := map[string][2]int{"alone": {k, k}, "all": {0, 63}, "first": {k, 63}, "last": {0, k}}
	if k > 0 && k < 63 {
		m["between"] = [2]int{k - 1, k + 1}
	}
	if k > 0 {
		m["behind"] = [2]int{0, k - 1}
	}
	if k < 63 {
		m["ahead"] = [2]int{k + 1, 63}
	}
	return m
}

// A first pass where one wave was told already, at each place of it and of
// each of its components.
func TestFirstPassesNeedWavesUntold(t *testing.T) {
	taken, refused := 0, 0
	for n := 1; n <= impl.MaxComps; n++ {
		f := plainFrame(n)
		for comp := range n {
			for _, k := range []int{0, 1, 30, 62, 63} {
				for what, span := range spansFor(k) {
					for _, comps := range risingComps(n) {
						for bit := range impl.MaxLow + 1 {
							s := firstScan(span[0], span[1], (5*bit+k)%14, comps...)
							for _, way := range waveToBit(comp, k, bit) {
								left := checkScript(t, what, f, then(way, s))
								meets := slices.Contains(comps, comp) && between(span[0], span[1], k)
								if (len(left) == 0) != meets {
									t.Fatal(n, comp, k, what, comps, bit)
								}
								if meets {
									refused++
								} else {
									taken++
								}
							}
						}
					}
				}
			}
		}
	}
	if taken == 0 || refused == 0 {
		t.Fatal(taken, refused)
	}
}

// Whatever the Low of both, a second first pass cannot come.
func TestFirstPassesComeOnce(t *testing.T) {
	f := plainFrame(2)
	for low := range impl.MaxLow + 1 {
		for again := range impl.MaxLow + 1 {
			script := []impl.Scan{firstScan(0, 63, low, 0, 1), firstScan(9, 9, again, 1)}
			checkNotTold(t, "again", f, script)
			checkTold(t, "of another one", f, []impl.Scan{firstScan(0, 63, low, 0), firstScan(9, 9, again, 1)})
			checkTold(t, "of another place", f, []impl.Scan{firstScan(10, 63, low, 0, 1), firstScan(9, 9, again, 1)})
		}
	}
}

// A refining pass where all waves but one are told down to its High, and of
// that one nothing, or down to each other bit.
func TestRefiningPassesNeedJustTheirHigh(t *testing.T) {
	taken, refused := 0, 0
	for n := 1; n <= impl.MaxComps; n++ {
		f := plainFrame(n)
		for comp := range n {
			for _, k := range []int{0, 31, 63} {
				for _, high := range []int{1, 2, 7, 13} {
					others := toldBut(n, comp, k, high)
					for what, span := range spansFor(k) {
						for _, comps := range [][]int{upTo(n), {comp}, upTo(n)[:comp], upTo(n)[comp:], upTo(n)[:comp+1], upTo(n)[comp+1:]} {
							if len(comps) == 0 {
								continue
							}
							s := fineScan(span[0], span[1], high-1, comps...)
							meets := slices.Contains(comps, comp) && between(span[0], span[1], k)
							for bit := -1; bit <= impl.MaxLow; bit++ {
								ahead := others
								if bit >= 0 {
									ahead = then(others, waveToBit(comp, k, bit)[0]...)
								}
								left := checkScript(t, what, f, then(ahead, s))
								if (len(left) == 0) != (meets && bit != high) {
									t.Fatal(n, comp, k, high, what, comps, bit)
								}
								if len(left) == 0 {
									refused++
								} else {
									taken++
								}
							}
						}
					}
				}
			}
		}
	}
	if taken == 0 || refused == 0 {
		t.Fatal(taken, refused)
	}
}

// Each refining pass behind each bit that was told.
func TestRefiningPassesBitByBit(t *testing.T) {
	f := plainFrame(1)
	for told := range impl.MaxLow + 1 {
		for low := range impl.MaxLow + 1 {
			script := []impl.Scan{firstScan(0, 63, told, 0), fineScan(0, 63, low, 0)}
			if got := len(checkScript(t, "bits", f, script)) > 0; got != (low+1 == told) {
				t.Fatal(told, low, got)
			}
		}
	}
	// A High of 14 is one that no pass can have told.
	if s := fineScan(0, 63, 13, 0); !impl.ScanOk(f, s) {
		t.Fatal(s)
	}
	// From the highest bit down to the lowest, one by one; none may be left out
	// or come twice.
	script := []impl.Scan{firstScan(0, 63, 13, 0)}
	for low := 12; low >= 0; low-- {
		checkNotTold(t, "the same again", f, then(script, fineScan(0, 63, low+1, 0)))
		if low > 0 {
			checkNotTold(t, "one left out", f, then(script, fineScan(0, 63, low-1, 0)))
		}
		script = append(script, fineScan(0, 63, low, 0))
		checkTold(t, "down", f, script)
	}
	if !impl.ScriptOk(f, script) {
		t.Fatal(script)
	}
}

func TestMaxScans(t *testing.T) {
	for n := 1; n <= impl.MaxComps; n++ {
		f := plainFrame(n)
		checkTold(t, "MaxScans", f, singlePlaces(impl.MaxScans))
		checkTold(t, "one less", f, singlePlaces(impl.MaxScans-1))
		for _, count := range []int{impl.MaxScans + 1, impl.MaxScans + 2, 64} {
			checkNotTold(t, "more", f, singlePlaces(count))
		}
		checkNotTold(t, "many", f, slices.Repeat(singlePlaces(40), 1000))
		// All is told by just MaxScans scans, and by one more.
		var others []impl.Scan
		for comp := 1; comp < n; comp++ {
			others = append(others, firstScan(0, 63, 0, comp))
		}
		room := impl.MaxScans - len(others) - 1
		full := then(others, append(singlePlaces(room), firstScan(room, 63, 0, 0))...)
		if len(full) != impl.MaxScans || !impl.ScriptOk(f, full) {
			t.Fatal(n, full)
		}
		checkTold(t, "all in MaxScans", f, full)
		over := then(others, append(singlePlaces(room+1), firstScan(room+1, 63, 0, 0))...)
		if len(over) != impl.MaxScans+1 || impl.ScriptOk(f, over) {
			t.Fatal(n, over)
		}
		checkNotTold(t, "all in one more", f, over)
	}
	// Refining scans count as others do.
	f, script := plainFrame(3), []impl.Scan(nil)
	for comp := range 3 {
		script = append(script, firstScan(0, 63, 13, comp))
		for low := 12; low >= 0; low-- {
			script = append(script, fineScan(0, 63, low, comp))
		}
	}
	checkTold(t, "refined", f, script[:40])
	checkNotTold(t, "refined", f, script[:41])
	checkNotTold(t, "refined", f, script)
}

// A scan that is none, first, last and between, in place of another one and
// beside it.
func TestScriptsWithABadScan(t *testing.T) {
	d := dice(1212)
	for n := 1; n <= impl.MaxComps; n++ {
		f := plainFrame(n)
		scripts := [][]impl.Scan{nil, ruleScriptFor(f, 0), ruleScriptFor(f, 1), ruleScriptFor(f, 2), singlePlaces(39), grown(&d, f, 10)}
		for bad, s := range badScans(n) {
			for _, script := range scripts {
				for _, at := range []int{0, len(script) / 2, len(script)} {
					checkNotTold(t, bad, f, slices.Insert(slices.Clone(script), at, s))
					if at < len(script) {
						x := slices.Clone(script)
						x[at] = s
						checkNotTold(t, bad, f, x)
					}
				}
			}
		}
	}
	// Scans of one frame's components, with a frame of fewer.
	for kind := range 3 {
		for n := 1; n <= impl.MaxComps; n++ {
			for fewer := 1; fewer <= impl.MaxComps; fewer++ {
				left := checkScript(t, "of another frame", plainFrame(fewer), ruleScriptFor(plainFrame(n), kind))
				if (len(left) == 0) != (n > fewer) || impl.ScriptOk(plainFrame(fewer), ruleScriptFor(plainFrame(n), kind)) != (n == fewer) {
					t.Fatal(kind, n, fewer)
				}
			}
		}
	}
}

func TestDrawnScripts(t *testing.T) {
	d := dice(12)
	taken, refused, fine := 0, 0, 0
	for i := range 1500 {
		f := plainFrame(1 + i%impl.MaxComps)
		script := grown(&d, f, 1+d.below(12))
		checkTold(t, "grown", f, script)
		for _, s := range script {
			if s.High > 0 {
				fine++
			}
		}
		for range 4 {
			s := drawnScan(&d, f, ruleLeft(f, script))
			at := d.below(len(script) + 1)
			if len(checkScript(t, "one more", f, slices.Insert(slices.Clone(script), at, s))) > 0 {
				taken++
			} else {
				refused++
			}
		}
	}
	if taken < 100 || refused < 100 || fine < 100 {
		t.Fatal(taken, refused, fine)
	}
}

// One wave alone stays at a bit, or untold, at each place of each component.
func TestScriptsThatLeaveOneWave(t *testing.T) {
	for n := 1; n <= impl.MaxComps; n++ {
		f := plainFrame(n)
		for comp := range n {
			for k := range 64 {
				others := toldBut(n, comp, k, 0)
				for bit := -1; bit <= impl.MaxLow; bit++ {
					script := others
					if bit >= 0 {
						script = then(others, waveToBit(comp, k, bit)[0]...)
					}
					got := impl.LeftOf(f, script)
					if len(got) != n || got[comp][k] != bit {
						t.Fatal(n, comp, k, bit, got)
					}
					if impl.ScriptOk(f, script) != (bit == 0) {
						t.Fatal(n, comp, k, bit, "ScriptOk")
					}
				}
				checkTold(t, "a 1", f, then(others, firstScan(k, k, 1, comp)))
				checkTold(t, "the 1 told", f, then(others, firstScan(k, k, 1, comp), fineScan(k, k, 0, comp)))
				checkTold(t, "untold", f, others)
			}
		}
	}
}

// One component alone is not told.
func TestScriptsThatLeaveAComponent(t *testing.T) {
	for n := 1; n <= impl.MaxComps; n++ {
		f := plainFrame(n)
		for _, comps := range risingComps(n) {
			script := []impl.Scan{firstScan(0, 63, 0, comps...)}
			checkTold(t, "some", f, script)
			if impl.ScriptOk(f, script) != (len(comps) == n) {
				t.Fatal(n, comps)
			}
		}
	}
}

func TestScriptFor(t *testing.T) {
	for _, frames := range []map[string]impl.Frame{goodFrames(), wrongFrames(), fewBlocks()} {
		for what, f := range frames {
			for _, kind := range append(far(), -2, -1, 0, 1, 2, 3, 4) {
				if got, want := impl.ScriptFor(f, kind), ruleScriptFor(f, kind); !sameScript(got, want) {
					t.Fatalf("%s, kind %d: %v, and not %v", what, kind, got, want)
				}
			}
		}
	}
	for n := 1; n <= impl.MaxComps; n++ {
		for kind, count := range []int{1, n, 2 + 4*n} {
			if got := impl.ScriptFor(plainFrame(n), kind); len(got) != count {
				t.Fatal(n, kind, got)
			}
		}
		for _, kind := range []int{-1, 3} {
			if got := impl.ScriptFor(plainFrame(n), kind); len(got) != 0 {
				t.Fatal(n, kind, got)
			}
		}
	}
}

// The scripts of two components, each number by hand.
func TestScriptForByHand(t *testing.T) {
	f := plainFrame(2)
	for kind, want := range [][]impl.Scan{
		{{Comps: []int{0, 1}, To: 63}},
		{{Comps: []int{0}, To: 63}, {Comps: []int{1}, To: 63}},
		{
			{Comps: []int{0, 1}, From: 0, To: 0, Low: 1},
			{Comps: []int{0}, From: 1, To: 5, Low: 2},
			{Comps: []int{0}, From: 6, To: 63, Low: 2},
			{Comps: []int{1}, From: 1, To: 5, Low: 2},
			{Comps: []int{1}, From: 6, To: 63, Low: 2},
			{Comps: []int{0}, From: 1, To: 63, High: 2, Low: 1},
			{Comps: []int{1}, From: 1, To: 63, High: 2, Low: 1},
			{Comps: []int{0, 1}, From: 0, To: 0, High: 1, Low: 0},
			{Comps: []int{0}, From: 1, To: 63, High: 1, Low: 0},
			{Comps: []int{1}, From: 1, To: 63, High: 1, Low: 0},
		},
	} {
		if got := impl.ScriptFor(f, kind); !sameScript(got, want) {
			t.Fatal(kind, got)
		}
	}
}

// Promise 12, its first half: the scripts that are made tell all, and no
// sooner than with their last scan.
func TestMadeScriptsTellAll(t *testing.T) {
	for _, frames := range []map[string]impl.Frame{goodFrames(), fewBlocks()} {
		for what, f := range frames {
			for kind := range 3 {
				script := impl.ScriptFor(f, kind)
				if !impl.ScriptOk(f, script) || !tellsAll(impl.LeftOf(f, script)) {
					t.Fatalf("%s, kind %d: %v does not tell all", what, kind, script)
				}
				for n := range script {
					if impl.ScriptOk(f, script[:n]) {
						t.Fatalf("%s, kind %d: %d scans tell all", what, kind, n)
					}
					checkTold(t, what, f, script[:n])
				}
				// Without one of its scans it tells less, or nothing.
				for at := range script {
					less := slices.Delete(slices.Clone(script), at, at+1)
					if checkScript(t, what, f, less); impl.ScriptOk(f, less) {
						t.Fatalf("%s, kind %d: all is told without scan %d", what, kind, at)
					}
				}
			}
		}
	}
}

// nothingBehind asks that no such scan can come behind a script.
func nothingBehind(t *testing.T, f impl.Frame, script []impl.Scan, s impl.Scan) {
	t.Helper()
	if got := impl.LeftOf(f, then(script, s)); len(got) != 0 || impl.ScriptOk(f, then(script, s)) {
		t.Fatalf("%v comes behind %v: %v", s, script, got)
	}
}

// Promise 12, its second half: each scan of one component there is, and of
// several ones each with some spans.
func TestNothingComesBehindAllThatIsTold(t *testing.T) {
	one := plainFrame(1)
	for from := range 64 {
		for to := from; to < 64; to++ {
			for low := range impl.MaxLow + 1 {
				nothingBehind(t, one, impl.ScriptFor(one, 0), firstScan(from, to, low, 0))
				nothingBehind(t, one, impl.ScriptFor(one, 0), fineScan(from, to, low, 0))
			}
		}
	}
	for n := 1; n <= impl.MaxComps; n++ {
		f := plainFrame(n)
		for kind := range 3 {
			script := impl.ScriptFor(f, kind)
			for _, comps := range risingComps(n) {
				for _, span := range [][2]int{{0, 0}, {0, 63}, {63, 63}, {1, 63}, {1, 5}, {6, 63}, {0, 62}, {31, 31}} {
					for low := range impl.MaxLow + 1 {
						nothingBehind(t, f, script, firstScan(span[0], span[1], low, comps...))
						nothingBehind(t, f, script, fineScan(span[0], span[1], low, comps...))
					}
				}
			}
			for _, s := range badScans(n) {
				nothingBehind(t, f, script, s)
			}
			for _, s := range script {
				nothingBehind(t, f, script, s)
			}
		}
	}
}

// checkNeverMore asks that no number becomes more from scan to scan, but where
// it was -1, and that each scan makes one of them another one.
func checkNeverMore(t *testing.T, f impl.Frame, script []impl.Scan) {
	t.Helper()
	was := impl.LeftOf(f, nil)
	for n := 1; n <= len(script); n++ {
		now := impl.LeftOf(f, script[:n])
		if len(now) != len(f.Comps) {
			t.Fatalf("%v: nothing behind %d scans", script, n)
		}
		for comp := range now {
			for k, bit := range now[comp] {
				if last := was[comp][k]; bit > last && last != -1 || bit < last-1 || bit < -1 {
					t.Fatalf("%v: behind %d scans %d became %d", script, n, last, bit)
				}
			}
		}
		if sameBlocks(was, now) {
			t.Fatalf("%v: scan %d told nothing", script, n-1)
		}
		was = now
	}
}

func TestScriptsMakeFiner(t *testing.T) {
	d := dice(121)
	for n := 1; n <= impl.MaxComps; n++ {
		f := plainFrame(n)
		for kind := range 3 {
			checkNeverMore(t, f, impl.ScriptFor(f, kind))
		}
		checkNeverMore(t, f, singlePlaces(40))
		for range 100 {
			checkNeverMore(t, f, grown(&d, f, 12))
		}
	}
}

// Promise 12, of scripts that are drawn: they tell all, and nothing can come
// behind them.
func TestDrawnScriptsThatTellAll(t *testing.T) {
	d := dice(1221)
	for i := range 300 {
		f := plainFrame(1 + i%impl.MaxComps)
		script := wholeScript(&d, f)
		checkTold(t, "whole", f, script)
		if !impl.ScriptOk(f, script) {
			t.Fatalf("%v does not tell all", script)
		}
		checkNeverMore(t, f, script)
		sets := risingComps(len(f.Comps))
		for range 30 {
			from, to := drawnSpan(&d)
			low, comps := d.below(14), sets[d.below(len(sets))]
			nothingBehind(t, f, script, firstScan(from, to, low, comps...))
			nothingBehind(t, f, script, fineScan(from, to, low, comps...))
		}
	}
}

// scanRoom is a script in new memory, with what must not be seen in the room
// behind each list: a component more, and a scan that would tell all.
func scanRoom(script []impl.Scan) []impl.Scan {
	var out []impl.Scan
	for _, s := range script {
		s.Comps = guard(s.Comps, 1, 2, 99).list
		out = append(out, s)
	}
	return append(out, firstScan(0, 63, 0, 0), impl.Scan{From: 77})[:len(script)]
}

// scanRoomOpened is what stands in a script's lists and in the room behind
// them.
func scanRoomOpened(script []impl.Scan) []impl.Scan {
	var out []impl.Scan
	for _, s := range script[:cap(script)] {
		s.Comps = slices.Clone(s.Comps[:cap(s.Comps)])
		out = append(out, s)
	}
	return out
}

// checkScriptLeft calls all functions with room behind each list, and asks
// that all stays as it was and that they answer as without it.
func checkScriptLeft(t *testing.T, what string, f impl.Frame, script []impl.Scan) {
	t.Helper()
	own := scanRoom(script)
	was := scanRoomOpened(own)
	comps := guard(f.Comps, impl.Comp{Id: 99, H: 1, V: 1}, impl.Comp{H: 9})
	g := f
	g.Comps = comps.list
	for i, s := range own {
		if impl.ScanOk(g, s) != scanRule(f, script[i]) {
			t.Fatalf("%s, %v: ScanOk with other room behind the lists", what, s)
		}
	}
	left, ok := impl.LeftOf(g, own), impl.ScriptOk(g, own)
	for kind := -1; kind <= 3; kind++ {
		if !sameScript(impl.ScriptFor(g, kind), ruleScriptFor(f, kind)) {
			t.Fatalf("%s, kind %d: ScriptFor with other room behind the lists", what, kind)
		}
	}
	comps.check(t, what)
	if !sameScript(was, scanRoomOpened(own)) {
		t.Fatalf("%s: a script, or the room behind it, was written into", what)
	}
	if want := ruleLeft(f, script); !sameBlocks(left, want) || ok != tellsAll(want) {
		t.Fatalf("%s: another answer with other room behind the lists", what)
	}
}

func TestScriptsLeaveArguments(t *testing.T) {
	d := dice(9)
	for n := 1; n <= impl.MaxComps; n++ {
		f := plainFrame(n)
		for kind := range 3 {
			script := ruleScriptFor(f, kind)
			checkScriptLeft(t, strconv.Itoa(kind), f, script)
			checkScriptLeft(t, "less", f, script[:len(script)-1])
			checkScriptLeft(t, "more", f, then(script, script[0]))
			for bad, s := range badScans(n) {
				checkScriptLeft(t, bad, f, then(script, s))
				checkScriptLeft(t, bad, f, then([]impl.Scan{s}, script...))
			}
		}
		checkScriptLeft(t, "none", f, nil)
		checkScriptLeft(t, "MaxScans", f, singlePlaces(40))
		checkScriptLeft(t, "one more", f, singlePlaces(41))
		for range 20 {
			checkScriptLeft(t, "grown", f, grown(&d, f, 8))
		}
	}
	for what, f := range wrongFrames() {
		checkScriptLeft(t, what, f, ruleScriptFor(plainFrame(1), 2))
	}
}

// writeOverLists writes a number of its own over each list with its spare
// room, and tells whether each kept it: lists that share memory do not.
func writeOverLists(lists [][]int) bool {
	for i, list := range lists {
		scribble(list, 1000+i)
	}
	own := true
	for i, list := range lists {
		own = own && between(1000+i, 1000+i, list...)
	}
	return own
}

func compsLists(script []impl.Scan) [][]int {
	var lists [][]int
	for _, s := range script {
		lists = append(lists, s.Comps)
	}
	return lists
}

func TestScriptsAreNewMemory(t *testing.T) {
	for n := 1; n <= impl.MaxComps; n++ {
		f := plainFrame(n)
		for kind := range 3 {
			own := cloneFrame(f)
			x, y := impl.ScriptFor(own, kind), impl.ScriptFor(own, kind)
			if !writeOverLists(compsLists(y)) {
				t.Fatal(n, kind, "two lists of one script share memory")
			}
			scribble(y, impl.Scan{From: 9})
			scribble(own.Comps, impl.Comp{Id: 66})
			if !sameScript(x, ruleScriptFor(f, kind)) || !sameScript(impl.ScriptFor(f, kind), x) {
				t.Fatal(n, kind, "a script shares memory with another one or with its frame")
			}
			for count := range len(x) + 1 {
				script := cloneScript(x[:count])
				want := ruleLeft(f, script)
				a, b := impl.LeftOf(f, script), impl.LeftOf(f, script)
				if !writeOverLists(b) {
					t.Fatal(n, kind, "two lists of what is left share memory")
				}
				scribble(b, []int{5})
				if !sameScript(script, x[:count]) {
					t.Fatal(n, kind, "what is left shares memory with its script")
				}
				writeOverLists(compsLists(script))
				scribble(script, impl.Scan{From: 8})
				if !sameBlocks(a, want) {
					t.Fatal(n, kind, "what is left shares memory with its script or with another answer")
				}
			}
		}
	}
}

// Scans whose lists share memory among themselves are scans as others are.
func TestScansOfSharedLists(t *testing.T) {
	f := plainFrame(4)
	comps := []int{0, 1, 2, 3}
	script := []impl.Scan{
		firstScan(0, 63, 2, comps[:1]...), firstScan(0, 63, 1, comps[1:]...), fineScan(0, 63, 1, comps[:1]...),
		fineScan(0, 9, 0, comps...), fineScan(10, 63, 0, comps...),
	}
	for i := range script {
		checkTold(t, "shared", f, script[:i+1])
	}
	if !impl.ScriptOk(f, script) || !slices.Equal(comps, upTo(4)) {
		t.Fatal(script)
	}
}

// The same arguments give the same answers, whatever was asked for between.
func TestScriptsAgain(t *testing.T) {
	d := dice(10)
	type asked struct {
		f      impl.Frame
		script []impl.Scan
		kind   int
		left   [][]int
		ok     bool
		made   []impl.Scan
	}
	var list []asked
	for i := range 60 {
		a := asked{f: plainFrame(1 + i%impl.MaxComps), kind: i % 3}
		a.script = grown(&d, a.f, 10)
		if i%3 == 0 {
			a.script = then(a.script, a.script...)
		} else if i%3 == 1 {
			a.script = wholeScript(&d, a.f)
		}
		a.left, a.ok, a.made = impl.LeftOf(a.f, a.script), impl.ScriptOk(a.f, a.script), impl.ScriptFor(a.f, a.kind)
		list = append(list, a)
	}
	for range 3 {
		slices.Reverse(list)
		for _, a := range list {
			if !sameBlocks(impl.LeftOf(a.f, a.script), a.left) || impl.ScriptOk(a.f, a.script) != a.ok || !sameScript(impl.ScriptFor(a.f, a.kind), a.made) {
				t.Fatalf("%v: other answers", a.script)
			}
		}
	}
}
