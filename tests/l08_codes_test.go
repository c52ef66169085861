package tests

import (
	"bytes"
	"cmp"
	"math"
	"slices"
	"strconv"
	"strings"
	"testing"

	"loop.example/g00139/impl"
)

// eachList hands out every list of n numbers from low to high.
func eachList(n, low, high int, do func(list []int)) {
	list := make([]int, n)
	var fill func(at int)
	fill = func(at int) {
		if at == n {
			do(slices.Clone(list))
			return
		}
		for x := low; x <= high; x++ {
			list[at] = x
			fill(at + 1)
		}
	}
	fill(0)
}

func shuffled(d *dice, list []int) []int {
	list = slices.Clone(list)
	for i := len(list) - 1; i > 0; i-- {
		k := d.below(i + 1)
		list[i], list[k] = list[k], list[i]
	}
	return list
}

// steps is the numbers from low to high, and the ones behind them.
func steps(low, high int, behind ...int) []int {
	var list []int
	for n := low; n <= high; n++ {
		list = append(list, n)
	}
	return append(list, behind...)
}

// fullLens parts one code after the other in two until there are n, at least
// two; the deeper it is the more often the last one is parted.
func fullLens(d *dice, n, deep int) []int {
	lens := []int{1, 1}
	for len(lens) < n {
		at := len(lens) - 1
		if lens[at] == impl.MaxLen || d.below(10) >= deep {
			at = d.below(len(lens))
		}
		if lens[at] < impl.MaxLen {
			lens[at]++
			lens = append(lens, lens[at])
		}
	}
	return lens
}

// loosened is lens of which some are longer, or have no code any more.
func loosened(d *dice, lens []int) []int {
	lens = slices.Clone(lens)
	for i := range lens {
		switch d.below(4) {
		case 0:
			lens[i] = 0
		case 1:
			lens[i] += d.below(impl.MaxLen - lens[i] + 1)
		}
	}
	// One is left in any case.
	lens[d.below(len(lens))] = impl.MaxLen
	return lens
}

// goodLens are lens that are LensOk: full ones and others.
func goodLens() [][]int {
	d := dice(8)
	all := [][]int{
		{1}, {16}, {7}, {0, 1}, {1, 0}, {1, 1}, {2, 0, 1, 3, 3}, {0, 0, 9, 0}, {1, 16}, {16, 1}, {3, 3, 3},
		{1, 2, 4, 4, 8, 16}, {16, 16, 16}, {5, 0, 2, 0, 5, 16, 2},
		steps(1, 16), steps(1, 16, 16), slices.Repeat([]int{8}, 256), slices.Repeat([]int{16}, 256), slices.Repeat([]int{8}, 255),
		with(make([]int, 256), 255, 1), with(make([]int, 256), 0, 16), append(make([]int, 239), steps(1, 16, 16)...),
	}
	for i := range 150 {
		n := 2 + d.below(12)
		if i%3 == 0 {
			n = 2 + d.below(255)
		}
		lens := shuffled(&d, fullLens(&d, n, d.below(11)))
		all = append(all, lens, loosened(&d, lens))
		if n < 200 {
			all = append(all, shuffled(&d, append(slices.Clone(lens), make([]int, d.below(56))...)))
		}
	}
	return all
}

// wrongLens are lens that are not LensOk, each for one reason.
func wrongLens() map[string][]int {
	all := map[string][]int{
		"none":                      nil,
		"an empty list":             {},
		"no code":                   {0},
		"no codes":                  make([]int, 256),
		"one symbol too many":       slices.Repeat([]int{16}, 257),
		"one without a code more":   append(slices.Repeat([]int{8}, 256), 0),
		"257, one code alone":       with(make([]int, 257), 0, 1),
		"257, the last has a code":  with(make([]int, 257), 256, 1),
		"three of one bit":          {1, 1, 1},
		"full and one of 16":        {1, 1, 16},
		"one of 16 and full":        {16, 1, 1},
		"full by steps and one":     steps(1, 16, 16, 16),
		"256 of 8, one of them 7":   with(slices.Repeat([]int{8}, 256), 100, 7),
		"five of two bits":          {2, 2, 2, 2, 2},
		"256 of one bit":            slices.Repeat([]int{1}, 256),
		"very many":                 slices.Repeat([]int{1}, 70000),
		"as many as wrap round":     slices.Repeat([]int{0, 1}, 1<<17),
		"one past the limit":        {17},
		"one past the limit behind": {1, 2, 17},
		"below 0":                   {-1},
		"below 0 behind":            {1, -1},
		"below 0 ahead":             {-1, 1},
	}
	for _, n := range append(far(), -2, -16, -17, -47, -48, -49, 18, 31, 32, 33, 63, 64, 65, 80, 1<<32+1, 1<<32, -1<<32, 256, 257) {
		if n < 0 || n > impl.MaxLen {
			all["a length of "+strconv.Itoa(n)] = []int{2, n, 2}
		}
	}
	return all
}

// wrongFreqs are freqs that BestLens takes no lens from, each for one reason.
func wrongFreqs() map[string][]int {
	all := map[string][]int{
		"none":                     nil,
		"an empty list":            {},
		"a nought":                 {0},
		"noughts":                  make([]int, 256),
		"one symbol too many":      slices.Repeat([]int{5}, 257),
		"257, one freq alone":      with(make([]int, 257), 0, 1),
		"257, the last has a freq": with(make([]int, 257), 256, 1),
		"a nought more than 256":   append(slices.Repeat([]int{1}, 256), 0),
		"very many":                slices.Repeat([]int{1}, 70000),
		"one past the limit":       {impl.MaxFreq + 1},
		"one past it, the last":    {1, 2, impl.MaxFreq + 1},
		"below 0":                  {-1},
		"below 0, the last":        {1, 2, -1},
		"below 0, the first":       {-1, 1, 2},
		"0 in all":                 {-1, 1},
	}
	for _, n := range append(far(), -2, -impl.MaxFreq, impl.MaxFreq+2, 1<<32, 1<<32+1) {
		if n < 0 || n > impl.MaxFreq {
			all["a freq of "+strconv.Itoa(n)] = []int{3, n, 2}
		}
	}
	return all
}

// ruleLensOk takes each code's share away from a whole one.
func ruleLensOk(lens []int) bool {
	left, some := 65536, false
	for _, l := range lens {
		if l < 0 || l > 16 {
			return false
		}
		if l > 0 {
			share := 65536
			for range l {
				share /= 2
			}
			left -= share
			some = true
		}
	}
	return len(lens) <= 256 && some && left >= 0
}

// oneMore is a number in bits, and 1.
func oneMore(text string) string {
	at := strings.LastIndex(text, "0")
	return text[:at] + "1" + strings.Repeat("0", len(text)-at-1)
}

// ruleCodes is the text of each symbol's code, made from that of the one ahead.
func ruleCodes(lens []int) []string {
	var order []int
	for symbol, l := range lens {
		if l > 0 {
			order = append(order, symbol)
		}
	}
	slices.SortStableFunc(order, func(a, b int) int { return lens[a] - lens[b] })
	codes, text := make([]string, len(lens)), ""
	for i, symbol := range order {
		if i > 0 {
			text = oneMore(text)
		}
		text += strings.Repeat("0", lens[symbol]-len(text))
		codes[symbol] = text
	}
	return codes
}

// ruleThing counts for each symbol how often it stands in it.
type ruleThing struct {
	weight int
	counts []int
}

func ruleCoins(freqs []int) []ruleThing {
	var coins []ruleThing
	for symbol, freq := range freqs {
		if freq > 0 {
			coins = append(coins, ruleThing{freq, with(make([]int, len(freqs)), symbol, 1)})
		}
	}
	sortThings(coins)
	return coins
}

func sortThings(list []ruleThing) {
	slices.SortStableFunc(list, func(a, b ruleThing) int { return cmp.Compare(a.weight, b.weight) })
}

func addCounts(a, b []int) []int {
	sum := slices.Clone(a)
	for i, n := range b {
		sum[i] += n
	}
	return sum
}

// ruleBest is BestLens by the chapter's own way, each list sorted anew.
func ruleBest(freqs []int) []int {
	coins, lens := ruleCoins(freqs), make([]int, len(freqs))
	if len(coins) == 1 {
		return coins[0].counts
	}
	list := coins
	for range 15 {
		next := slices.Clone(coins)
		for len(list) >= 2 {
			next = append(next, ruleThing{list[0].weight + list[1].weight, addCounts(list[0].counts, list[1].counts)})
			list = list[2:]
		}
		sortThings(next)
		list = next
	}
	for _, x := range list[:2*len(coins)-2] {
		lens = addCounts(lens, x.counts)
	}
	return lens
}

// leastCost is what the best lens of at most 16 bits cost, found without them:
// level by level down the tree, best[i][j] is the least that the codes cost so
// far if the i most frequent symbols have one and j places are open.
func leastCost(freqs []int) int {
	const none = math.MaxInt / 2
	sorted := slices.DeleteFunc(slices.Clone(freqs), func(n int) bool { return n == 0 })
	slices.SortFunc(sorted, func(a, b int) int { return b - a })
	n, left := len(sorted), 0
	rest := make([]int, n+1)
	for i := n - 1; i >= 0; i-- {
		left += sorted[i]
		rest[i] = left
	}
	level := func() [][]int {
		rows := make([][]int, n+1)
		for i := range rows {
			rows[i] = slices.Repeat([]int{none}, n+2)
		}
		return rows
	}
	best, least := level(), none
	best[0][1] = 0
	for range 16 {
		next := level()
		for i := range n {
			for j := 1; j <= n-i; j++ {
				// More open places than symbols are of no use.
				k := min(2*j, n-i)
				next[i][k] = min(next[i][k], best[i][j]+rest[i])
			}
		}
		for i := range n {
			for j := 1; j <= n-i; j++ {
				next[i+1][j-1] = min(next[i+1][j-1], next[i][j])
			}
		}
		least = min(least, next[n][0])
		best = next
	}
	return least
}

// ruleCost is -1 where something is not as it has to be.
func ruleCost(freqs, lens []int) int {
	if !ruleLensOk(lens) || !ruleFreqsOk(freqs) || len(freqs) != len(lens) {
		return -1
	}
	cost := 0
	for i := range freqs {
		if freqs[i] > 0 && lens[i] == 0 {
			return -1
		}
		for range lens[i] {
			cost += freqs[i]
		}
	}
	return cost
}

func ruleFreqsOk(freqs []int) bool {
	return len(freqs) >= 1 && len(freqs) <= 256 && slices.Min(freqs) >= 0 && slices.Max(freqs) >= 1 && slices.Max(freqs) <= 1000000
}

func textOfBytes(b []byte) string {
	var s strings.Builder
	for _, x := range b {
		s.WriteString(strconv.FormatInt(int64(x)+256, 2)[1:])
	}
	return s.String()
}

// ruleRead looks for the code that the text begins with.
func ruleRead(lens []int, b []byte, n int) ([]int, bool) {
	if !ruleLensOk(lens) || n < 0 || n > 60000 {
		return nil, false
	}
	codes, text := ruleCodes(lens), textOfBytes(b)
	var symbols []int
	for range n {
		at := slices.IndexFunc(codes, func(code string) bool { return code != "" && strings.HasPrefix(text, code) })
		if at < 0 {
			return nil, false
		}
		symbols = append(symbols, at)
		text = text[len(codes[at]):]
	}
	return symbols, true
}

// ruleText is nothing where a symbol has no code.
func ruleText(lens, symbols []int) []byte {
	codes := ruleCodes(lens)
	var s strings.Builder
	for _, symbol := range symbols {
		if symbol < 0 || symbol >= len(codes) || codes[symbol] == "" {
			return nil
		}
		s.WriteString(codes[symbol])
	}
	return bytesOfText(s.String())
}

// withCodes are the symbols that have a code.
func withCodes(lens []int) []int {
	var symbols []int
	for symbol, l := range lens {
		if l > 0 {
			symbols = append(symbols, symbol)
		}
	}
	return symbols
}

func thrownSymbols(d *dice, lens []int, n int) []int {
	some := withCodes(lens)
	symbols := make([]int, n)
	for i := range symbols {
		symbols[i] = some[d.below(len(some))]
	}
	return symbols
}

// growing are freqs each of which is the sum of the two ahead.
func growing(n int) []int {
	freqs := []int{1, 1}
	for len(freqs) < n {
		freqs = append(freqs, freqs[len(freqs)-1]+freqs[len(freqs)-2])
	}
	return freqs[:n]
}

func doubling(n int) []int {
	freqs := []int{1}
	for len(freqs) < n {
		freqs = append(freqs, 2*freqs[len(freqs)-1])
	}
	return freqs
}

// sunk is thrown freqs that fall off the steeper the longer the shift.
func sunk(d *dice, n, shift int) []int {
	freqs := make([]int, n)
	for i := range freqs {
		freqs[i] = d.below(impl.MaxFreq+1) >> d.below(shift+1)
	}
	return with(freqs, d.below(n), 1+d.below(impl.MaxFreq))
}

// freqsToTry are freqs that BestLens takes.
func freqsToTry() [][]int {
	d := dice(88)
	all := [][]int{
		{1}, {impl.MaxFreq}, {0, 0, 3}, {5, 5}, {1, impl.MaxFreq}, {impl.MaxFreq, 1}, {0, impl.MaxFreq, 0, impl.MaxFreq},
		{impl.MaxFreq, impl.MaxFreq, impl.MaxFreq}, {1, impl.MaxFreq, impl.MaxFreq - 1}, slices.Repeat([]int{0, 7}, 128),
		growing(17), growing(18), growing(19), growing(24), growing(30), shuffled(&d, growing(30)),
		doubling(16), doubling(17), doubling(18), doubling(20), shuffled(&d, doubling(20)),
		append(growing(30), doubling(20)...), slices.Repeat(growing(30), 8), slices.Repeat(doubling(20), 12),
		append(growing(28), slices.Repeat([]int{1}, 228)...), append(growing(30), make([]int, 226)...),
		steps(1, 256), steps(0, 255), steps(impl.MaxFreq-255, impl.MaxFreq), with(steps(1, 256), 9, impl.MaxFreq),
		with(make([]int, 256), 255, 1), with(with(make([]int, 256), 255, 1), 0, 1),
	}
	for _, n := range []int{2, 3, 4, 5, 6, 7, 8, 9, 15, 16, 17, 31, 32, 33, 64, 100, 127, 128, 129, 255, 256} {
		all = append(all, slices.Repeat([]int{1}, n), slices.Repeat([]int{impl.MaxFreq}, n), cycled(n, 1, 2), cycled(n, 2, 1, 1), cycled(n, 1, 1, 2, 4))
		all = append(all, thrown(&d, n, 1, 3), thrown(&d, n, 1, 20), thrown(&d, n, 1, impl.MaxFreq), sunk(&d, n, 20), sunk(&d, n, 40))
	}
	for range 60 {
		all = append(all, sunk(&d, 2+d.below(60), 5+d.below(30)), with(thrown(&d, 2+d.below(40), 0, 2), 0, 1))
	}
	return all
}

func TestCodeConstants(t *testing.T) {
	if impl.MaxSymbols != 256 || impl.MaxLen != 16 || impl.MaxFreq != 1000000 {
		t.Fatal(impl.MaxSymbols, impl.MaxLen, impl.MaxFreq)
	}
}

func TestLensOk(t *testing.T) {
	for _, lens := range goodLens() {
		if !ruleLensOk(lens) {
			t.Fatalf("the rule refuses %v", lens)
		}
		if !impl.LensOk(lens) {
			t.Errorf("refused: %v", lens)
		}
	}
	for what, lens := range wrongLens() {
		if ruleLensOk(lens) {
			t.Fatalf("the rule takes %s", what)
		}
		if impl.LensOk(lens) {
			t.Errorf("taken: %s", what)
		}
	}
}

func TestLensOkOfShortLists(t *testing.T) {
	for n := range 5 {
		eachList(n, -1, 17, func(lens []int) {
			if impl.LensOk(lens) != ruleLensOk(lens) {
				t.Errorf("%v: %v", lens, impl.LensOk(lens))
			}
		})
	}
}

// Full lens have no room for one code more, however long; with one code that
// is a bit longer there is room for one of its length.
func TestLensOkAtFullSums(t *testing.T) {
	d := dice(81)
	for range 300 {
		lens := shuffled(&d, fullLens(&d, 2+d.below(200), d.below(11)))
		if !impl.LensOk(lens) {
			t.Errorf("full: %v", lens)
		}
		at := d.below(len(lens) + 1)
		if more := slices.Insert(slices.Clone(lens), at, impl.MaxLen); impl.LensOk(more) {
			t.Errorf("one more: %v", more)
		}
		at = d.below(len(lens))
		if shorter := with(lens, at, lens[at]-1); lens[at] > 1 && impl.LensOk(shorter) {
			t.Errorf("one shorter: %v", shorter)
		}
		if lens[at] == impl.MaxLen {
			continue
		}
		longer := with(lens, at, lens[at]+1)
		if !impl.LensOk(longer) || !impl.LensOk(append(longer, longer[at])) {
			t.Errorf("one longer: %v", longer)
		}
		if impl.LensOk(append(longer, longer[at], impl.MaxLen)) {
			t.Errorf("one longer, and two more: %v", longer)
		}
	}
}

// checkCodes holds the codes against the rule, and against one another.
func checkCodes(t *testing.T, lens []int) {
	t.Helper()
	codes, want := impl.CodesOf(lens), ruleCodes(lens)
	if len(codes) != len(lens) || !impl.FieldsOk(codes) {
		t.Fatalf("%v: %v", lens, codes)
	}
	texts := make([]string, len(codes))
	for symbol, code := range codes {
		texts[symbol] = bitText([]impl.Field{code})
		if code.Len != lens[symbol] || texts[symbol] != want[symbol] {
			t.Errorf("%v: symbol %d has %v", lens, symbol, code)
		}
	}
	some := withCodes(lens)
	for _, a := range some {
		for _, b := range some {
			if a != b && strings.HasPrefix(texts[b], texts[a]) {
				t.Errorf("%v: the code of %d begins that of %d", lens, a, b)
			}
		}
	}
}

func TestNoCodeBeginsAnotherOne(t *testing.T) {
	for _, lens := range goodLens() {
		checkCodes(t, lens)
	}
}

func TestCodesOfShortLists(t *testing.T) {
	for n := range 6 {
		eachList(n, 0, 5, func(lens []int) {
			if ruleLensOk(lens) {
				checkCodes(t, lens)
			}
		})
	}
	eachList(3, 0, 16, func(lens []int) {
		if ruleLensOk(lens) {
			checkCodes(t, lens)
		}
	})
}

func TestCodesByHand(t *testing.T) {
	for _, x := range []struct {
		lens []int
		want []impl.Field
	}{
		{[]int{1}, []impl.Field{{Len: 1}}},
		{[]int{16}, []impl.Field{{Len: 16}}},
		{[]int{0, 3, 0}, []impl.Field{{}, {Len: 3}, {}}},
		{[]int{1, 1}, []impl.Field{{Len: 1}, {Len: 1, Val: 1}}},
		{[]int{2, 2, 2}, []impl.Field{{Len: 2}, {Len: 2, Val: 1}, {Len: 2, Val: 2}}},
		{[]int{2, 0, 2, 0, 2, 2}, []impl.Field{{Len: 2}, {}, {Len: 2, Val: 1}, {}, {Len: 2, Val: 2}, {Len: 2, Val: 3}}},
		{[]int{2, 0, 1, 3, 3}, []impl.Field{{Len: 2, Val: 2}, {}, {Len: 1}, {Len: 3, Val: 6}, {Len: 3, Val: 7}}},
		{[]int{3, 3, 2, 1}, []impl.Field{{Len: 3, Val: 6}, {Len: 3, Val: 7}, {Len: 2, Val: 2}, {Len: 1}}},
		{[]int{4, 1}, []impl.Field{{Len: 4, Val: 8}, {Len: 1}}},
		{[]int{2, 5, 2, 5, 9}, []impl.Field{{Len: 2}, {Len: 5, Val: 16}, {Len: 2, Val: 1}, {Len: 5, Val: 17}, {Len: 9, Val: 288}}},
		{[]int{16, 1, 16}, []impl.Field{{Len: 16, Val: 32768}, {Len: 1}, {Len: 16, Val: 32769}}},
		{[]int{1, 2, 16}, []impl.Field{{Len: 1}, {Len: 2, Val: 2}, {Len: 16, Val: 49152}}},
	} {
		if codes := impl.CodesOf(x.lens); !slices.Equal(codes, x.want) {
			t.Errorf("%v: %v", x.lens, codes)
		}
	}
	full := impl.CodesOf(steps(1, 16, 16))
	if len(full) != 17 || full[15] != (impl.Field{Len: 16, Val: 65534}) || full[16] != (impl.Field{Len: 16, Val: 65535}) {
		t.Errorf("full by steps: %v", full)
	}
	for symbol, code := range impl.CodesOf(slices.Repeat([]int{8}, 256)) {
		if code != (impl.Field{Len: 8, Val: symbol}) {
			t.Errorf("256 of 8 bits: %d has %v", symbol, code)
		}
	}
}

func TestNoCodesOfWrongLens(t *testing.T) {
	for what, lens := range wrongLens() {
		if codes := impl.CodesOf(lens); len(codes) != 0 {
			t.Errorf("%s: %v", what, codes)
		}
	}
}

func TestBestLensByHand(t *testing.T) {
	for _, x := range []struct {
		what        string
		freqs, want []int
	}{
		{"one symbol", []int{7}, []int{1}},
		{"one symbol alone", []int{0, 0, 7, 0}, []int{0, 0, 1, 0}},
		{"one at the limit", []int{impl.MaxFreq}, []int{1}},
		{"two", []int{1, impl.MaxFreq}, []int{1, 1}},
		{"two and noughts", []int{0, 3, 0, 2, 0}, []int{0, 1, 0, 1, 0}},
		{"three of one weight", []int{4, 4, 4}, []int{2, 2, 1}},
		{"three, the first weighs most", []int{9, 4, 4}, []int{1, 2, 2}},
		{"four of one weight", []int{4, 4, 4, 4}, []int{2, 2, 2, 2}},
		{"five of one weight", []int{1, 1, 1, 1, 1}, []int{3, 3, 2, 2, 2}},
		{"six of one weight", []int{1, 1, 1, 1, 1, 1}, []int{3, 3, 3, 3, 2, 2}},
		{"coins ahead of a pair of their weight", []int{1, 1, 2, 2}, []int{2, 2, 2, 2}},
		{"such coins by symbol", []int{2, 1, 2, 1}, []int{2, 2, 2, 2}},
		{"a coin ahead of two pairs of its weight", []int{1, 1, 1, 1, 2}, []int{3, 3, 2, 2, 2}},
		{"such a coin is the first symbol", []int{2, 1, 1, 1, 1}, []int{2, 3, 3, 2, 2}},
		{"each the sum of the two ahead", []int{1, 1, 2, 3, 5}, []int{4, 4, 3, 2, 1}},
		{"the same, turned about", []int{5, 3, 2, 1, 1}, []int{1, 2, 3, 4, 4}},
		{"each twice the one ahead", []int{1, 2, 4, 8, 16}, []int{4, 4, 3, 2, 1}},
	} {
		if lens := impl.BestLens(x.freqs); !slices.Equal(lens, x.want) {
			t.Errorf("%s: %v", x.what, lens)
		}
	}
	for i, l := range impl.BestLens(slices.Repeat([]int{3}, 256)) {
		if l != 8 {
			t.Errorf("256 of one weight: %d has %d", i, l)
		}
	}
	if lens := impl.BestLens(slices.Repeat([]int{3}, 255)); len(lens) != 255 || lens[254] != 7 || slices.ContainsFunc(lens[:254], func(l int) bool { return l != 8 }) {
		t.Errorf("255 of one weight: %v", lens)
	}
}

// checkBest holds the best lens against the chapter's way, and what they cost
// against the least that any can.
func checkBest(t *testing.T, freqs []int) {
	t.Helper()
	lens := impl.BestLens(freqs)
	if want := ruleBest(freqs); !slices.Equal(lens, want) {
		t.Errorf("%v: %v, not %v", freqs, lens, want)
	}
	if !impl.LensOk(lens) {
		t.Errorf("%v: %v are not LensOk", freqs, lens)
	}
	if cost := impl.CostOf(freqs, lens); cost != leastCost(freqs) {
		t.Errorf("%v: %v cost %d, not %d", freqs, lens, cost, leastCost(freqs))
	}
	for i, l := range lens {
		if freqs[i] == 0 && l != 0 {
			t.Errorf("%v: %d has no freq, and %d bits", freqs, i, l)
		}
	}
}

func TestBestLensByTheChaptersWay(t *testing.T) {
	for _, freqs := range freqsToTry() {
		if !ruleFreqsOk(freqs) {
			t.Fatalf("the rule refuses %v", freqs)
		}
		checkBest(t, freqs)
	}
}

func TestBestLensOfShortLists(t *testing.T) {
	for n := 1; n <= 7; n++ {
		high := []int{0, 9, 9, 9, 7, 4, 3, 2}[n]
		eachList(n, 0, high, func(freqs []int) {
			if slices.Max(freqs) > 0 {
				checkBest(t, freqs)
			}
		})
	}
}

// Where freqs grow fast the codes would be longer than MaxLen, were it not for
// the limit.
func TestBestLensMeetMaxLen(t *testing.T) {
	for _, x := range []struct {
		freqs []int
		most  int
	}{
		{growing(16), 15}, {growing(17), 16}, {growing(18), 16}, {growing(24), 16}, {growing(30), 16},
		{doubling(16), 15}, {doubling(17), 16}, {doubling(18), 16}, {doubling(20), 16},
	} {
		lens := impl.BestLens(x.freqs)
		if len(lens) != len(x.freqs) || slices.Max(lens) != x.most || !impl.LensOk(lens) {
			t.Errorf("%v: %v", x.freqs, lens)
		}
	}
	falling := steps(1, 16, 16)
	slices.Reverse(falling)
	if lens := impl.BestLens(growing(17)); !slices.Equal(lens, falling) {
		t.Errorf("just at the limit: %v", lens)
	}
}

func TestNoBestLensOfWrongFreqs(t *testing.T) {
	for what, freqs := range wrongFreqs() {
		if ruleFreqsOk(freqs) {
			t.Fatalf("the rule takes %s", what)
		}
		if lens := impl.BestLens(freqs); len(lens) != 0 {
			t.Errorf("%s: %v", what, lens)
		}
	}
}

func TestFreqsAtTheLimits(t *testing.T) {
	for at := range 3 {
		for _, x := range []struct {
			freq int
			ok   bool
		}{{-1, false}, {0, true}, {1, true}, {impl.MaxFreq - 1, true}, {impl.MaxFreq, true}, {impl.MaxFreq + 1, false}} {
			freqs, lens := with([]int{6, 6, 6}, at, x.freq), []int{2, 2, 2}
			if best := impl.BestLens(freqs); len(best) > 0 != x.ok {
				t.Errorf("%v: %v", freqs, best)
			}
			if cost := impl.CostOf(freqs, lens); cost >= 0 != x.ok {
				t.Errorf("%v: costs %d", freqs, cost)
			}
		}
	}
	for _, n := range []int{1, 2, 255, 256, 257, 258} {
		freqs := slices.Repeat([]int{impl.MaxFreq}, n)
		if best := impl.BestLens(freqs); len(best) > 0 != (n <= 256) {
			t.Errorf("%d symbols: %v", n, best)
		}
	}
}

// Of few symbols all lens that can be are asked what they cost.
func TestBestLensCostNoMoreThanAnyOthers(t *testing.T) {
	d := dice(82)
	for _, x := range []struct{ n, longest, tries int }{{1, 16, 20}, {2, 16, 40}, {3, 16, 80}, {4, 16, 12}, {5, 6, 40}, {6, 5, 30}} {
		var others [][]int
		eachList(x.n, 0, x.longest, func(lens []int) {
			if impl.LensOk(lens) {
				others = append(others, lens)
			}
		})
		for i := range x.tries {
			freqs := with(thrown(&d, x.n, 0, []int{3, 12, 40, impl.MaxFreq}[i%4]), i%x.n, 1+i)
			best := impl.CostOf(freqs, impl.BestLens(freqs))
			if best < 1 {
				t.Fatalf("%v: the best lens cost %d", freqs, best)
			}
			for _, lens := range others {
				if cost := impl.CostOf(freqs, lens); cost >= 0 && cost < best {
					t.Errorf("%v: %v cost %d, the best lens %d", freqs, lens, cost, best)
				}
			}
		}
	}
}

// othersFor are lens that give each symbol with a freq a code: thrown ones,
// such with the shortest for the greatest freqs, and the best ones with two
// changed.
func othersFor(d *dice, freqs []int) [][]int {
	var all [][]int
	some := withCodes(freqs)
	slices.SortStableFunc(some, func(a, b int) int { return freqs[b] - freqs[a] })
	for i := range 10 {
		made := fullLens(d, max(2, len(some)), i)
		if i%2 == 0 {
			slices.Sort(made)
		}
		lens := make([]int, len(freqs))
		for k, symbol := range some {
			lens[symbol] = made[k]
		}
		all = append(all, lens)
	}
	best := impl.BestLens(freqs)
	for range 40 {
		a, b := some[d.below(len(some))], some[d.below(len(some))]
		turned := with(with(best, a, best[b]), b, best[a])
		moved := with(best, a, max(1, best[a]-1))
		moved[b] = min(impl.MaxLen, moved[b]+1)
		all = append(all, turned, moved, with(moved, some[len(some)-1], impl.MaxLen))
	}
	return all
}

func TestBestLensCostNoMoreThanMadeOnes(t *testing.T) {
	d := dice(83)
	for _, freqs := range freqsToTry() {
		best, asked := impl.CostOf(freqs, impl.BestLens(freqs)), 0
		for _, lens := range othersFor(&d, freqs) {
			cost := impl.CostOf(freqs, lens)
			if cost >= 0 {
				asked++
			}
			if cost >= 0 && cost < best {
				t.Errorf("%v: %v cost %d, the best lens %d", freqs, lens, cost, best)
			}
		}
		if best < 1 || asked < 10 {
			t.Errorf("%v: the best cost %d, asked were %d", freqs, best, asked)
		}
	}
}

func TestCostByHand(t *testing.T) {
	for _, x := range []struct {
		freqs, lens []int
		want        int
	}{
		{[]int{5, 1, 1, 2}, []int{1, 3, 3, 2}, 15},
		{[]int{1}, []int{1}, 1},
		{[]int{1}, []int{16}, 16},
		{[]int{impl.MaxFreq}, []int{16}, 16000000},
		{[]int{0, 3}, []int{0, 2}, 6},
		{[]int{0, 3}, []int{2, 2}, 6},
		{[]int{3, 0}, []int{1, 16}, 3},
		{slices.Repeat([]int{impl.MaxFreq}, 256), slices.Repeat([]int{16}, 256), 4096000000},
		{slices.Repeat([]int{impl.MaxFreq}, 256), slices.Repeat([]int{8}, 256), 2048000000},
		{with(make([]int, 256), 255, 9), with(make([]int, 256), 255, 3), 27},
	} {
		if cost := impl.CostOf(x.freqs, x.lens); cost != x.want {
			t.Errorf("%v by %v: %d", x.freqs, x.lens, cost)
		}
	}
}

func TestNoCost(t *testing.T) {
	for what, freqs := range wrongFreqs() {
		lens := slices.Repeat([]int{9}, min(len(freqs), 256))
		if cost := impl.CostOf(freqs, lens); cost != -1 {
			t.Errorf("freqs, %s: %d", what, cost)
		}
	}
	for what, lens := range wrongLens() {
		freqs := make([]int, min(len(lens), 256))
		for i := range freqs {
			if lens[i] != 0 {
				freqs[i] = 2
			}
		}
		if len(freqs) > 0 {
			freqs[0] = 1
		}
		if cost := impl.CostOf(freqs, lens); cost != -1 {
			t.Errorf("lens, %s: %d", what, cost)
		}
	}
	for _, x := range []struct {
		what        string
		freqs, lens []int
	}{
		{"a len more", []int{1, 2}, []int{2, 2, 2}},
		{"a len of 0 more", []int{1, 2}, []int{2, 2, 0}},
		{"a len fewer", []int{1, 2, 3}, []int{2, 2}},
		{"a freq of 0 more", []int{1, 2, 0}, []int{2, 2}},
		{"lens for none", nil, []int{1}},
		{"none for a freq", []int{1}, nil},
		{"no code for the first", []int{1, 2}, []int{0, 1}},
		{"no code for the last", []int{1, 2, 1}, []int{1, 2, 0}},
		{"codes where none is needed alone", []int{3, 0}, []int{0, 3}},
		{"no code for the one between", []int{1, impl.MaxFreq, 1}, []int{1, 0, 2}},
	} {
		if cost := impl.CostOf(x.freqs, x.lens); cost != -1 {
			t.Errorf("%s: %d", x.what, cost)
		}
	}
}

func TestCostOfShortLists(t *testing.T) {
	for n := range 3 {
		for m := range 3 {
			eachList(n, -1, 2, func(freqs []int) {
				eachList(m, -1, 17, func(lens []int) {
					if cost := impl.CostOf(freqs, lens); cost != ruleCost(freqs, lens) {
						t.Errorf("%v by %v: %d", freqs, lens, cost)
					}
				})
			})
		}
	}
}

func TestCodeTextByHand(t *testing.T) {
	for _, x := range []struct {
		what          string
		lens, symbols []int
		want          []byte
	}{
		{"no symbols", []int{1}, nil, nil},
		{"one bit", []int{1}, []int{0}, []byte{127}},
		{"eight bits", []int{1}, make([]int, 8), []byte{0}},
		{"nine bits", []int{1}, make([]int, 9), []byte{0, 127}},
		{"the last of a full one", []int{1, 1}, []int{1}, []byte{255}},
		{"of one to three bits", []int{2, 0, 1, 3, 3}, []int{2, 0, 4, 2, 3}, []byte{93, 191}},
		{"sixteen bits", []int{1, 16}, []int{1}, []byte{128, 0}},
		{"seventeen bits", []int{1, 16}, []int{0, 1}, []byte{64, 0, 127}},
	} {
		if b := impl.CodeText(x.lens, x.symbols); !bytes.Equal(b, x.want) {
			t.Errorf("%s: %v", x.what, b)
		}
		if symbols, ok := impl.CodeRead(x.lens, x.want, len(x.symbols)); !ok || !slices.Equal(symbols, x.symbols) {
			t.Errorf("%s: came back as %v, %v", x.what, symbols, ok)
		}
	}
}

// checkText holds the text against the rule and reads it back, by itself and
// with bytes behind.
func checkText(t *testing.T, lens, symbols []int) {
	t.Helper()
	b := impl.CodeText(lens, symbols)
	if !bytes.Equal(b, ruleText(lens, symbols)) {
		t.Errorf("%v with %v: %v", symbols, lens, b)
	}
	for _, behind := range [][]byte{nil, {0}, {255}, {255, 0, 170}, make([]byte, 40)} {
		back, ok := impl.CodeRead(lens, slices.Concat(b, behind), len(symbols))
		if !ok || !slices.Equal(back, symbols) {
			t.Errorf("%v with %v, and %v behind: came back as %v, %v", symbols, lens, behind, back, ok)
		}
	}
}

func TestSymbolsAreReadBack(t *testing.T) {
	d := dice(84)
	for _, lens := range goodLens() {
		checkText(t, lens, withCodes(lens))
		for _, n := range []int{0, 1, 2, 3, 7, 8, 9, 100} {
			checkText(t, lens, thrownSymbols(&d, lens, n))
		}
	}
	for _, freqs := range freqsToTry() {
		lens := impl.BestLens(freqs)
		checkText(t, lens, thrownSymbols(&d, lens, 1+d.below(50)))
	}
}

// What the codes of all symbols take is what the lens cost.
func TestTextsTakeWhatTheyCost(t *testing.T) {
	d := dice(85)
	for range 200 {
		freqs := with(thrown(&d, 1+d.below(40), 0, 30), 0, 1)
		var symbols []int
		for symbol, freq := range freqs {
			symbols = append(symbols, slices.Repeat([]int{symbol}, freq)...)
		}
		lens := impl.BestLens(freqs)
		if b := impl.CodeText(lens, shuffled(&d, symbols)); len(b) != (impl.CostOf(freqs, lens)+7)/8 {
			t.Errorf("%v: %d bytes", freqs, len(b))
		}
	}
}

func TestNoTextOfWrongSymbols(t *testing.T) {
	lens := []int{2, 0, 1, 3, 3, 0}
	for _, wrong := range append(far(), -1, -2, -6, 1, 5, 6, 7, 255, 256, 1<<32, 1<<32+2, -1<<32) {
		if between(0, 5, wrong) && wrong != 1 && wrong != 5 {
			continue
		}
		for _, symbols := range [][]int{{wrong}, {wrong, 2}, {2, wrong}, {2, 0, wrong, 3}} {
			if b := impl.CodeText(lens, symbols); len(b) != 0 {
				t.Errorf("%v: %v", symbols, b)
			}
		}
	}
	for what, lens := range wrongLens() {
		for _, symbols := range [][]int{nil, {0}, {1}, {0, 0}, {0, 1}, {2}} {
			if b := impl.CodeText(lens, symbols); len(b) != 0 {
				t.Errorf("%s: %v", what, b)
			}
		}
	}
}

// pairOfLens has a code of one bit and one of sixteen.
func pairOfLens() []int { return []int{1, 16} }

func TestAsManySymbolsAsCanBe(t *testing.T) {
	for _, x := range []struct {
		what          string
		lens, symbols []int
		size          int
	}{
		{"of one bit", []int{1}, make([]int, impl.MaxBytes), impl.MaxBytes / 8},
		{"of one bit, one too many", []int{1}, make([]int, impl.MaxBytes+1), 0},
		{"of eight bits", slices.Repeat([]int{8}, 256), cycled(impl.MaxBytes, steps(0, 255)...), impl.MaxBytes},
		{"of eight bits, one too many", slices.Repeat([]int{8}, 256), cycled(impl.MaxBytes+1, steps(0, 255)...), 0},
		{"of eight bits, but one of nine", []int{9, 8}, with(cycled(impl.MaxBytes, 1), 77, 0), 0},
		{"of eight bits, but one of seven", []int{7, 8}, with(cycled(impl.MaxBytes, 1), 77, 0), impl.MaxBytes},
		{"of eight bits, one of seven and one of nine", []int{7, 8, 9}, with(with(cycled(impl.MaxBytes, 1), 77, 0), 9, 2), impl.MaxBytes},
		{"of sixteen bits, half as many", pairOfLens(), cycled(impl.MaxBytes/2, 1), impl.MaxBytes},
		{"of sixteen bits, and a bit", pairOfLens(), append(cycled(impl.MaxBytes/2, 1), 0), 0},
		{"a bit, and of sixteen bits", pairOfLens(), append([]int{0}, cycled(impl.MaxBytes/2, 1)...), 0},
		{"of sixteen bits, and sixteen bits", pairOfLens(), append(cycled(impl.MaxBytes/2-1, 1), make([]int, 16)...), impl.MaxBytes},
		{"of sixteen bits, and seventeen bits", pairOfLens(), append(cycled(impl.MaxBytes/2-1, 1), make([]int, 17)...), 0},
		{"of sixteen bits, and nine bits", pairOfLens(), append(cycled(impl.MaxBytes/2-1, 1), make([]int, 9)...), impl.MaxBytes},
		{"of sixteen bits, and eight bits", pairOfLens(), append(cycled(impl.MaxBytes/2-1, 1), make([]int, 8)...), impl.MaxBytes - 1},
		{"of sixteen bits, as many", pairOfLens(), cycled(impl.MaxBytes, 1), 0},
		{"very many", []int{1}, make([]int, 1<<20), 0},
	} {
		b := impl.CodeText(x.lens, x.symbols)
		if len(b) != x.size {
			t.Errorf("%s: %d bytes", x.what, len(b))
		}
		if x.size == 0 {
			continue
		}
		if back, ok := impl.CodeRead(x.lens, b, len(x.symbols)); !ok || !slices.Equal(back, x.symbols) {
			t.Errorf("%s: came back as %d symbols, %v", x.what, len(back), ok)
		}
	}
}

// Only how many symbols are read has a limit; what they are read from may be
// longer than any text.
func TestReadingAsManyAsCanBe(t *testing.T) {
	noughts := make([]byte, 3*impl.MaxBytes)
	for _, lens := range [][]int{{1}, {8}, {9}, {16}} {
		for _, n := range []int{0, 1, impl.MaxBytes - 1, impl.MaxBytes} {
			if symbols, ok := impl.CodeRead(lens, noughts, n); !ok || !slices.Equal(symbols, make([]int, n)) {
				t.Errorf("%d symbols of %d bits: %d, %v", n, lens[0], len(symbols), ok)
			}
		}
		for _, n := range []int{impl.MaxBytes + 1, -1, -impl.MaxBytes, 1 << 32, math.MaxInt, math.MinInt} {
			if symbols, ok := impl.CodeRead(lens, noughts, n); ok || len(symbols) != 0 {
				t.Errorf("%d symbols of %d bits: %d, %v", n, lens[0], len(symbols), ok)
			}
		}
	}
}

func TestReadingNone(t *testing.T) {
	for _, b := range [][]byte{nil, {}, {255}, {0, 0}} {
		if symbols, ok := impl.CodeRead([]int{1}, b, 0); !ok || len(symbols) != 0 {
			t.Errorf("none from %v: %v, %v", b, symbols, ok)
		}
		for _, n := range []int{-1, impl.MaxBytes + 1} {
			if symbols, ok := impl.CodeRead([]int{1}, b, n); ok || len(symbols) != 0 {
				t.Errorf("%d from %v: %v, %v", n, b, symbols, ok)
			}
		}
		for what, lens := range wrongLens() {
			for _, n := range []int{0, 1} {
				if symbols, ok := impl.CodeRead(lens, b, n); ok || len(symbols) != 0 {
					t.Errorf("%s, %d from %v: %v, %v", what, n, b, symbols, ok)
				}
			}
		}
	}
}

func TestReadingByHand(t *testing.T) {
	for _, x := range []struct {
		what string
		lens []int
		b    []byte
		n    int
		want []int
		ok   bool
	}{
		{"a symbol from no bytes", []int{1}, nil, 1, nil, false},
		{"no code", []int{1}, []byte{128}, 1, nil, false},
		{"no code behind one", []int{1}, []byte{64}, 2, nil, false},
		{"the one ahead of no code", []int{1}, []byte{64}, 1, []int{0}, true},
		{"no code of sixteen bits", []int{16}, []byte{0, 1}, 1, nil, false},
		{"a code behind no code", []int{16}, []byte{0, 1, 0, 0}, 1, nil, false},
		{"a code of sixteen bits", []int{16}, []byte{0, 0}, 1, []int{0}, true},
		{"half of such a code", []int{16}, []byte{0}, 1, nil, false},
		{"one and a half", []int{16}, []byte{0, 0, 0}, 2, nil, false},
		{"what fills up is a code", []int{1, 1}, []byte{127}, 8, []int{0, 1, 1, 1, 1, 1, 1, 1}, true},
		{"what fills up is no more of them", []int{1, 1}, []byte{127}, 9, nil, false},
		{"what fills up is no code", []int{1}, []byte{127}, 2, nil, false},
		{"what fills up is cut off", []int{1, 4}, []byte{15}, 5, nil, false},
		{"other bits where it is filled up", []int{1, 2, 2}, []byte{160}, 3, []int{1, 1, 0}, true},
		{"bits behind that are no code", []int{3}, []byte{31}, 1, []int{0}, true},
		{"a code over three bytes", []int{1, 16}, []byte{64, 0, 0}, 2, []int{0, 1}, true},
		{"a code over three bytes, of which two are there", []int{1, 16}, []byte{64, 0}, 2, nil, false},
	} {
		symbols, ok := impl.CodeRead(x.lens, x.b, x.n)
		if ok != x.ok || !slices.Equal(symbols, x.want) {
			t.Errorf("%s: %v, %v", x.what, symbols, ok)
		}
	}
}

// checkRead holds one call against the rule.
func checkRead(t *testing.T, lens []int, b []byte, n int) {
	t.Helper()
	want, wantOk := ruleRead(lens, b, n)
	symbols, ok := impl.CodeRead(lens, b, n)
	if ok != wantOk || !slices.Equal(symbols, want) {
		t.Errorf("%d from %v with %v: %v, %v", n, b, lens, symbols, ok)
	}
}

func TestReadingEachByte(t *testing.T) {
	for count := 1; count <= 3; count++ {
		eachList(count, 0, 4, func(lens []int) {
			if !ruleLensOk(lens) {
				return
			}
			for x := range 256 {
				for n := range 10 {
					checkRead(t, lens, []byte{byte(x)}, n)
				}
			}
		})
	}
}

// Texts that are cut off, or of which a bit is another one.
func TestReadingChangedTexts(t *testing.T) {
	d := dice(86)
	for _, lens := range goodLens() {
		symbols := thrownSymbols(&d, lens, 1+d.below(12))
		b := ruleText(lens, symbols)
		for size := range b {
			if back, ok := impl.CodeRead(lens, b[:size], len(symbols)); ok || len(back) != 0 {
				t.Errorf("%v with %v, cut off at %d: %v, %v", symbols, lens, size, back, ok)
			}
			checkRead(t, lens, b[:size], len(symbols)-1)
		}
		for range 10 {
			at, other := d.below(len(b)), slices.Clone(b)
			other[at] ^= 1 << d.below(8)
			for _, n := range []int{len(symbols) - 1, len(symbols), len(symbols) + 1, len(symbols) + 9} {
				checkRead(t, lens, other, n)
			}
		}
		for range 10 {
			thrownBytes := make([]byte, d.below(12))
			for i := range thrownBytes {
				thrownBytes[i] = byte(d.below(256))
			}
			checkRead(t, lens, thrownBytes, d.below(20))
		}
	}
}

func TestCodesLeaveArgumentsAlone(t *testing.T) {
	d := dice(87)
	for _, list := range goodLens() {
		lens := guard(list, 1, 1, 17, -1)
		codes := impl.CodesOf(lens.list)
		lens.check(t, "CodesOf")
		if !impl.LensOk(lens.list) || len(codes) != len(list) {
			t.Errorf("LensOk or CodesOf read what lies behind %v", list)
		}
		symbols := guard(thrownSymbols(&d, list, 1+d.below(30)), -1, 999)
		b := impl.CodeText(lens.list, symbols.list)
		if !bytes.Equal(b, ruleText(list, symbols.list)) {
			t.Errorf("CodeText read what lies behind %v", list)
		}
		text := guard(b, 0, 255, 1)
		for _, n := range []int{len(symbols.list), len(symbols.list) + 9, -1} {
			back, ok := impl.CodeRead(lens.list, text.list, n)
			if want, wantOk := ruleRead(list, b, n); ok != wantOk || !slices.Equal(back, want) {
				t.Errorf("CodeRead read what lies behind %v", b)
			}
		}
		lens.check(t, "CodeText, CodeRead")
		symbols.check(t, "CodeText")
		text.check(t, "CodeRead")
	}
	for _, list := range freqsToTry() {
		freqs := guard(list, 1, -1, impl.MaxFreq+1)
		best := impl.BestLens(freqs.list)
		lens := guard(best, 1, 1, 17)
		if cost := impl.CostOf(freqs.list, lens.list); cost != ruleCost(list, best) || !slices.Equal(best, ruleBest(list)) {
			t.Errorf("BestLens or CostOf read what lies behind %v", list)
		}
		freqs.check(t, "BestLens, CostOf")
		lens.check(t, "CostOf")
	}
	for what, list := range wrongLens() {
		lens := guard(list, 1, 1, 1)
		if impl.LensOk(lens.list) || len(impl.CodesOf(lens.list)) != 0 || impl.CostOf([]int{1}, lens.list) != -1 {
			t.Errorf("%s: taken with what lies behind", what)
		}
		lens.check(t, what)
	}
	for what, list := range wrongFreqs() {
		freqs := guard(list, 1, 1, 1)
		if len(impl.BestLens(freqs.list)) != 0 || impl.CostOf(freqs.list, []int{1, 2, 3}) != -1 {
			t.Errorf("%s: taken with what lies behind", what)
		}
		freqs.check(t, what)
	}
}

func TestCodesAreNewMemory(t *testing.T) {
	d := dice(89)
	for _, lens := range goodLens() {
		was := slices.Clone(lens)
		symbols := thrownSymbols(&d, lens, 20)
		codes, b := impl.CodesOf(lens), impl.CodeText(lens, symbols)
		back, _ := impl.CodeRead(lens, b, len(symbols))
		right, text := slices.Clone(codes), slices.Clone(b)
		scribble(codes, impl.Field{Len: 3, Val: 3})
		scribble(back, 12345)
		if !slices.Equal(lens, was) || !slices.Equal(b, text) || !slices.Equal(impl.CodesOf(lens), right) {
			t.Errorf("the codes of %v share memory", was)
		}
		again, ok := impl.CodeRead(lens, b, len(symbols))
		if !ok || !slices.Equal(again, symbols) {
			t.Errorf("%v with %v: another time %v, %v", symbols, was, again, ok)
		}
		scribble(b, 77)
		if !slices.Equal(again, symbols) || !bytes.Equal(impl.CodeText(lens, symbols), text) {
			t.Errorf("the text of %v shares memory", symbols)
		}
	}
	for _, freqs := range freqsToTry() {
		was := slices.Clone(freqs)
		best := impl.BestLens(freqs)
		right := slices.Clone(best)
		scribble(best, 99)
		if !slices.Equal(freqs, was) || !slices.Equal(impl.BestLens(freqs), right) {
			t.Errorf("the best lens of %v share memory", was)
		}
	}
}
