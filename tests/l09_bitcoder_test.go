package tests

import (
	"bytes"
	"math/big"
	"slices"
	"strconv"
	"testing"

	"loop.example/g00139/impl"
)

// binsFor lays bits and contexts side by side.
func binsFor(ctxs, bits []int) []impl.Bin {
	list := make([]impl.Bin, len(bits))
	for i, bit := range bits {
		list[i] = impl.Bin{Ctx: ctxs[i], Bit: bit}
	}
	return list
}

func ctxsAndBits(list []impl.Bin) (ctxs, bits []int) {
	for _, bin := range list {
		ctxs, bits = append(ctxs, bin.Ctx), append(bits, bin.Bit)
	}
	return ctxs, bits
}

// inOne is bits that all have one context.
func inOne(ctx int, bits ...int) []impl.Bin { return binsFor(cycled(len(bits), ctx), bits) }

// inFresh is at most 400 bits, each with a context that none ahead of it has.
func inFresh(bits ...int) []impl.Bin { return binsFor(steps(0, len(bits)-1), bits) }

// alike is so many bits that are the same.
func alike(n, bit int) []int { return slices.Repeat([]int{bit}, n) }

// leaning is n bits that are 1 about share times out of a hundred.
func leaning(d *dice, n, share int) []int {
	bits := make([]int, n)
	for i := range bits {
		if d.below(100) < share {
			bits[i] = 1
		}
	}
	return bits
}

// thrownBins is n bins with one of ten contexts each.
func thrownBins(d *dice, n int) []impl.Bin {
	list := make([]impl.Bin, n)
	for i := range list {
		list[i].Ctx = d.below(10)
		list[i].Bit = d.below(2)
	}
	return list
}

func bytesThrown(d *dice, n int) []byte {
	b := make([]byte, n)
	for i := range b {
		b[i] = byte(d.below(256))
	}
	return b
}

// ruleModel is what the chapter says of likelihoods and of range, with numbers
// that can't run over.
type ruleModel struct {
	zero  map[int]int
	width *big.Int
}

func newRuleModel() ruleModel {
	return ruleModel{zero: map[int]int{}, width: big.NewInt(4294967295)}
}

func (m ruleModel) likelihood(ctx int) int {
	if p, ok := m.zero[ctx]; ok {
		return p
	}
	return 2048
}

func (m ruleModel) part(ctx int) *big.Int {
	part := new(big.Int).Quo(m.width, big.NewInt(4096))
	return part.Mul(part, big.NewInt(int64(m.likelihood(ctx))))
}

// take changes range and the context's likelihood, and tells whether range is
// too small now.
func (m ruleModel) take(ctx, bit int) bool {
	part, p := m.part(ctx), m.likelihood(ctx)
	if bit == 0 {
		m.width.Set(part)
		m.zero[ctx] = p + (4096-p)/32
	} else {
		m.width.Sub(m.width, part)
		m.zero[ctx] = p - p/32
	}
	return m.isSmall()
}

func (m ruleModel) isSmall() bool { return m.width.Cmp(big.NewInt(16777216)) < 0 }

func (m ruleModel) widen() { m.width.Mul(m.width, big.NewInt(256)) }

// ruleCarry is a carry that was seen: through how many bytes of 255 it went,
// how many bytes were ahead in all, and which of the four bytes at the end it
// came from (-1: it came ahead of these).
type ruleCarry struct{ through, ahead, last int }

// ruleWriter is low, and the bytes that were laid.
type ruleWriter struct {
	low     *big.Int
	laid    []byte
	carries []ruleCarry
	last    int
}

func (w *ruleWriter) lay() {
	top, rest := new(big.Int).QuoRem(w.low, big.NewInt(16777216), new(big.Int))
	if top.Cmp(big.NewInt(256)) >= 0 {
		w.carries = append(w.carries, ruleCarry{through: fullAtEnd(w.laid), ahead: len(w.laid), last: w.last})
		top.Sub(top, big.NewInt(256))
		ahead := new(big.Int).SetBytes(w.laid)
		// FillBytes panics where the bytes ahead can't take the carry.
		ahead.Add(ahead, big.NewInt(1)).FillBytes(w.laid)
	}
	if !top.IsInt64() || top.Int64() > 255 {
		panic("more than 1 is carried")
	}
	w.laid = append(w.laid, byte(top.Int64()))
	w.low.Mul(rest, big.NewInt(256))
}

// fullAtEnd is how many bytes of 255 stand at the end.
func fullAtEnd(b []byte) int {
	n := 0
	for n < len(b) && b[len(b)-1-n] == 255 {
		n++
	}
	return n
}

// ruleEncode is EncodeBins by the chapter's words, and the carries on the way.
func ruleEncode(list []impl.Bin) ([]byte, []ruleCarry) {
	m, w := newRuleModel(), &ruleWriter{low: new(big.Int), last: -1}
	for _, bin := range list {
		if bin.Bit == 1 {
			w.low.Add(w.low, m.part(bin.Ctx))
		}
		for small := m.take(bin.Ctx, bin.Bit); small; small = m.isSmall() {
			w.lay()
			m.widen()
		}
	}
	for w.last = range 4 {
		w.lay()
	}
	return w.laid, w.carries
}

// ruleWhole is what EncodeBins gives as one number that nothing has to be
// carried in: all that low ever became more.
func ruleWhole(list []impl.Bin) []byte {
	m, whole, size := newRuleModel(), new(big.Int), 4
	for _, bin := range list {
		if bin.Bit == 1 {
			whole.Add(whole, m.part(bin.Ctx))
		}
		for small := m.take(bin.Ctx, bin.Bit); small; small = m.isSmall() {
			whole.Mul(whole, big.NewInt(256))
			m.widen()
			size++
		}
	}
	return whole.FillBytes(make([]byte, size))
}

// ruleDecode is DecodeBins by the chapter's words, and how often code was cut:
// range was too small and code was not.
func ruleDecode(b []byte, ctxs []int) ([]int, int) {
	m, code, cuts := newRuleModel(), new(big.Int), 0
	shift := func() {
		next := byte(0)
		if len(b) > 0 {
			next, b = b[0], b[1:]
		}
		code.Add(code.Mul(code, big.NewInt(256)), big.NewInt(int64(next)))
	}
	for range 4 {
		shift()
	}
	bits := make([]int, len(ctxs))
	for i, ctx := range ctxs {
		if part := m.part(ctx); code.Cmp(part) >= 0 {
			bits[i] = 1
			code.Sub(code, part)
		}
		for small := m.take(ctx, bits[i]); small; small = m.isSmall() {
			if code.Cmp(big.NewInt(16777216)) >= 0 {
				cuts++
			}
			code.Rem(code, big.NewInt(16777216))
			shift()
			m.widen()
		}
	}
	return bits, cuts
}

// contextsToTry are ways to give n bits their contexts: one for all, many,
// others at each bit.
func contextsToTry(d *dice, n int) [][]int {
	return [][]int{
		cycled(n, 0), cycled(n, impl.MaxCtx-1), cycled(n, 3, 4), cycled(n, 0, 399), cycled(n, steps(0, 4)...), cycled(n, steps(0, 399)...),
		thrown(d, n, 0, 1), thrown(d, n, 7, 19), thrown(d, n, 0, impl.MaxCtx-1),
	}
}

// binsToTry are lists that EncodeBins takes.
func binsToTry() [][]impl.Bin {
	d := dice(9)
	all := [][]impl.Bin{nil, {}, {{}}, {{Bit: 1}}, {{Ctx: 399}}, {{Ctx: 399, Bit: 1}}}
	for _, n := range []int{1, 2, 3, 7, 8, 9, 10, 16, 17, 31, 40, 100, 399, 400, 401, 900} {
		for _, share := range []int{0, 1, 5, 30, 50, 70, 95, 99, 100} {
			for _, ctxs := range contextsToTry(&d, n) {
				all = append(all, binsFor(ctxs, leaning(&d, n, share)))
			}
		}
		all = append(all, inOne(8, cycled(n, 0, 1)...), inOne(8, cycled(n, 1, 0)...), inOne(8, cycled(n, 0, 0, 1)...), inOne(8, cycled(n, 1, 1, 1, 0)...))
	}
	// What was learnt to the utmost, and then is another way about.
	for _, n := range []int{30, 200, 700} {
		all = append(all, inOne(5, slices.Concat(alike(n, 0), alike(n, 1), alike(n, 0))...))
		all = append(all, inOne(5, slices.Concat(alike(n, 1), alike(n, 0), alike(n, 1))...))
		all = append(all, inOne(5, slices.Repeat(append(alike(n, 0), 1), 5)...))
		all = append(all, inOne(5, slices.Repeat(append(alike(n, 1), 0), 5)...))
	}
	// Of each context the bits lean another way.
	for _, n := range []int{50, 3000} {
		ctxs := thrown(&d, n, 0, 100)
		bits := make([]int, n)
		for i, ctx := range ctxs {
			bits[i] = leaning(&d, 1, ctx)[0]
		}
		all = append(all, binsFor(ctxs, bits))
	}
	return all
}

// behindToTry are bytes that may follow what EncodeBins gave.
func behindToTry() [][]byte {
	return [][]byte{nil, {0}, {1}, {255}, {255, 255, 255, 255, 255}, {255, 0, 170}, make([]byte, 40)}
}

// checkReadBack reads bytes back as the bits of a list.
func checkReadBack(t *testing.T, b []byte, list []impl.Bin) {
	t.Helper()
	ctxs, bits := ctxsAndBits(list)
	for _, behind := range behindToTry() {
		if back := impl.DecodeBins(slices.Concat(b, behind), ctxs); !slices.Equal(back, bits) {
			t.Errorf("%v, and %v behind: came back as %v", list, behind, back)
		}
	}
}

// checkBins holds a list against the rule and reads it back; it answers the
// carries.
func checkBins(t *testing.T, list []impl.Bin) []ruleCarry {
	t.Helper()
	b := impl.EncodeBins(list)
	want, carries := ruleEncode(list)
	if !bytes.Equal(b, want) {
		t.Errorf("%v: %v, not %v", list, b, want)
	}
	checkReadBack(t, b, list)
	return carries
}

// checkDecode holds bytes, whoever made them, against the rule; it answers how
// often code was cut.
func checkDecode(t *testing.T, b []byte, ctxs []int) int {
	t.Helper()
	want, cuts := ruleDecode(b, ctxs)
	if bits := impl.DecodeBins(b, ctxs); !slices.Equal(bits, want) {
		t.Errorf("%v by %v: %v, not %v", b, ctxs, bits, want)
	}
	return cuts
}

func TestBinConstants(t *testing.T) {
	if impl.MaxCtx != 400 || impl.MaxBins != 200000 {
		t.Fatal(impl.MaxCtx, impl.MaxBins)
	}
}

func TestBinsByHand(t *testing.T) {
	for _, x := range []struct {
		what string
		list []impl.Bin
		want []byte
	}{
		{"no bins", nil, []byte{0, 0, 0, 0}},
		{"a 0", inOne(0, 0), []byte{0, 0, 0, 0}},
		{"a 1: low is 1048575 * 2048", inOne(0, 1), []byte{0x7f, 0xff, 0xf8, 0}},
		{"a 1 in the last context", inOne(399, 1), []byte{0x7f, 0xff, 0xf8, 0}},
		{"a 0 and a 1: low is 524287 * 2112", inOne(7, 0, 1), []byte{0x41, 0xff, 0xf7, 0xc0}},
		{"two 1: low is 2147481600 + 524288 * 1984", inOne(7, 1, 1), []byte{0xbd, 0xff, 0xf8, 0}},
		{"a 0 and a 1 in two contexts: low is 524287 * 2048", inFresh(0, 1), []byte{0x3f, 0xff, 0xf8, 0}},
		{"two 1 in two contexts: low is 2147481600 + 524288 * 2048", inFresh(1, 1), []byte{0xbf, 0xff, 0xf8, 0}},
		{"two 1 with a 0 of another context between", []impl.Bin{{Ctx: 1, Bit: 1}, {Ctx: 2}, {Ctx: 1, Bit: 1}}, []byte{0x9e, 0xff, 0xf8, 0}},
		{"seven 0 of fresh contexts leave range at 33552384: no byte is laid", inFresh(alike(7, 0)...), []byte{0, 0, 0, 0}},
		{"eight leave it at 16775168: one is", inFresh(alike(8, 0)...), []byte{0, 0, 0, 0, 0}},
		{"a 1 and seven 0 leave it at 16777216: no byte is laid", inFresh(append([]int{1}, alike(7, 0)...)...), []byte{0x7f, 0xff, 0xf8, 0}},
	} {
		if b := impl.EncodeBins(x.list); !bytes.Equal(b, x.want) {
			t.Errorf("%s: %x", x.what, b)
		}
		checkReadBack(t, x.want, x.list)
	}
}

// The rule by bytes that carry is the one by a whole number that does not.
func TestBinsAsOneNumber(t *testing.T) {
	for _, list := range binsToTry() {
		want := ruleWhole(list)
		if b, _ := ruleEncode(list); !bytes.Equal(b, want) {
			t.Fatalf("the two rules of %v: %v and %v", list, b, want)
		}
		if b := impl.EncodeBins(list); !bytes.Equal(b, want) {
			t.Errorf("%v: %v, not %v", list, b, want)
		}
	}
}

func TestBinsAreReadBack(t *testing.T) {
	for _, list := range binsToTry() {
		checkBins(t, list)
	}
}

// All bits of short lists, in one context, in two that change, and in fresh
// ones.
func TestBinsOfShortLists(t *testing.T) {
	for n := range 12 {
		eachList(n, 0, 1, func(bits []int) {
			checkBins(t, inOne(2, bits...))
			checkBins(t, binsFor(cycled(n, 0, 1), bits))
			checkBins(t, inFresh(bits...))
		})
	}
}

func TestBinsOfEachContext(t *testing.T) {
	for ctx := range impl.MaxCtx {
		checkBins(t, inOne(ctx, 1))
		checkBins(t, inOne(ctx, 0, 1, 1, 1, 0, 1))
		checkBins(t, append(inFresh(alike(impl.MaxCtx, 1)...), inOne(ctx, 0, 1, 0)...))
	}
}

// Each beginning of a list is a list too: what is laid at the end is tried
// behind every bin.
func TestBinsOfEachBeginning(t *testing.T) {
	d := dice(91)
	for _, share := range []int{3, 40, 60, 97} {
		list := binsFor(thrown(&d, 300, 0, 9), leaning(&d, 300, share))
		for n := range len(list) + 1 {
			checkBins(t, list[:n])
		}
	}
}

func TestAlikeBitsCostLittle(t *testing.T) {
	for bit := range 2 {
		for n := range 3001 {
			for _, ctx := range []int{n % impl.MaxCtx, 0} {
				list := inOne(ctx, alike(n, bit)...)
				b := impl.EncodeBins(list)
				if len(b) < 4 || len(b) > 24+n/64 {
					t.Errorf("%d times a %d: %d bytes", n, bit, len(b))
				}
				if back := impl.DecodeBins(b, cycled(n, ctx)); !slices.Equal(back, alike(n, bit)) {
					t.Errorf("%d times a %d: came back as %v", n, bit, back)
				}
			}
		}
		for _, n := range []int{0, 1, 63, 64, 65, 128, 129, 500, 2047, 3000} {
			checkBins(t, inOne(17, alike(n, bit)...))
		}
	}
}

// What is likely costs less than what is not, and less than a bit.
func TestLikelyBitsCostLess(t *testing.T) {
	d := dice(92)
	likely := len(impl.EncodeBins(inOne(0, leaning(&d, 8000, 3)...)))
	even := len(impl.EncodeBins(inOne(0, leaning(&d, 8000, 50)...)))
	if likely > 350 || even < 1000 || even > 1060 {
		t.Errorf("8000 bits cost %d bytes, of which 3 in a hundred are 1, and %d, of which half are", likely, even)
	}
}

func TestCarriesByHand(t *testing.T) {
	// low is 7ffff800 behind the 1; eight 0 of fresh contexts lay 7f and leave
	// it at fff80000, range at 80000000; eight more lay ff and leave f8000000.
	eight := alike(8, 0)
	for _, x := range []struct {
		what    string
		bits    []int
		want    []byte
		carries []ruleCarry
	}{
		{"none yet", slices.Concat([]int{1}, eight), []byte{0x7f, 0xff, 0xf8, 0, 0}, nil},
		{"into the byte ahead, at the end", slices.Concat([]int{1}, eight, []int{1}), []byte{0x80, 0x3f, 0xf8, 0, 0}, []ruleCarry{{0, 1, 0}}},
		{"into the byte ahead", slices.Concat([]int{1}, eight, []int{1}, eight[1:]), []byte{0x80, 0x3f, 0xf8, 0, 0, 0}, []ruleCarry{{0, 1, -1}}},
		{"none yet, a 255 ahead", slices.Concat([]int{1}, eight, eight), []byte{0x7f, 0xff, 0xf8, 0, 0, 0}, nil},
		{"through a 255, at the end", slices.Concat([]int{1}, eight, eight, []int{1}), []byte{0x80, 0, 0x38, 0, 0, 0}, []ruleCarry{{1, 2, 0}}},
		{"through a 255", slices.Concat([]int{1}, eight, eight, []int{1}, eight[1:]), []byte{0x80, 0, 0x38, 0, 0, 0, 0}, []ruleCarry{{1, 2, -1}}},
	} {
		list := inFresh(x.bits...)
		if b := impl.EncodeBins(list); !bytes.Equal(b, x.want) {
			t.Errorf("%s: %x", x.what, b)
		}
		if carries := checkBins(t, list); !slices.Equal(carries, x.carries) {
			t.Errorf("%s: the rule carries %v", x.what, carries)
		}
	}
}

// nearAbove is a list whose bytes are just above those of ahead with noughts
// behind: as long as low is below that number it lays 255 after 255, and the
// 1 that takes it above carries through all of them.
func nearAbove(ahead []byte, noughts int, ctxs []int) []impl.Bin {
	target := slices.Concat(ahead, make([]byte, noughts), []byte{3, 141, 59, 26, 53, 58})
	bits, _ := ruleDecode(target, ctxs)
	return binsFor(ctxs, bits)
}

// carryLists are lists in which much is carried.
func carryLists() [][]impl.Bin {
	d := dice(93)
	var all [][]impl.Bin
	for _, ahead := range [][]byte{{1}, {64}, {128}, {192}, {255}, {254, 255}, {255, 255, 128}, {255, 255, 255, 1}, {0, 0, 1}, {85, 170}, {17, 34, 51, 68}} {
		for noughts := range 12 {
			n := 8*(len(ahead)+noughts+4) + 9
			all = append(all, nearAbove(ahead, noughts, steps(0, n-1)), nearAbove(ahead, noughts, thrown(&d, n, 0, 20)))
		}
	}
	return append(all, nearAbove([]byte{200, 10, 77, 5}, 40, thrown(&d, 500, 0, 60)))
}

// Each beginning of such a list is a list too, in which low may be carried
// from only at the end.
func TestCarries(t *testing.T) {
	seen := map[ruleCarry]int{}
	for _, list := range carryLists() {
		for n := len(list); n > 0 && n > len(list)-60; n-- {
			for _, c := range checkBins(t, list[:n]) {
				// How many are ahead of those of 255 is of no matter.
				c.ahead = min(c.ahead-c.through, 3)
				seen[c]++
			}
		}
	}
	for through := range 9 {
		for ahead := 1; ahead <= 3; ahead++ {
			for _, last := range []int{-1, 0} {
				if c := (ruleCarry{through, ahead, last}); seen[c] == 0 {
					t.Errorf("never seen: %+v", c)
				}
			}
		}
	}
	long := 0
	for c := range seen {
		long = max(long, c.through)
	}
	if long < 35 {
		t.Errorf("no carry goes further than through %d bytes", long)
	}
}

// low may be nearly twice what four bytes hold: 1 is carried, and 255 is laid.
func TestCarriesAheadOf255(t *testing.T) {
	for _, x := range []struct {
		d dice
		n int
	}{{48585, 17}, {106320, 17}, {1056090, 16}, {1189301, 16}} {
		list := thrownBins(&x.d, 60)
		carries := checkBins(t, list[:x.n])
		b, _ := ruleEncode(list[:x.n])
		if !slices.ContainsFunc(carries, func(c ruleCarry) bool { return c.last == -1 && b[c.ahead] == 255 }) {
			t.Errorf("the rule makes %v, and carries %v", b, carries)
		}
		checkBins(t, list)
	}
}

func TestCarriesAreReadBackInLongLists(t *testing.T) {
	d := dice(94)
	count := 0
	for _, ctxs := range contextsToTry(&d, 5000) {
		for _, share := range []int{2, 50, 98} {
			count += len(checkBins(t, binsFor(ctxs, leaning(&d, len(ctxs), share))))
		}
	}
	if count < 100 {
		t.Errorf("only %d carries", count)
	}
}

// low and range never come to more than the first range: no carry comes where
// no byte is ahead, nor where all that are ahead are 255 (the rule panics).
func TestNoCarryWithoutAByteThatTakesIt(t *testing.T) {
	for n := range impl.MaxCtx + 1 {
		for _, list := range [][]impl.Bin{inFresh(alike(n, 1)...), inOne(0, alike(n, 1)...), binsFor(cycled(n, 1, 2, 3), alike(n, 1))} {
			if carries := checkBins(t, list); len(carries) != 0 {
				t.Errorf("%d times a 1: %v", n, carries)
			}
		}
	}
	if b := impl.EncodeBins(inFresh(alike(40, 1)...)); !bytes.HasPrefix(b, []byte{255, 255, 255, 254}) {
		t.Errorf("forty times a 1: %v", b)
	}
	for n := range 10 {
		eachList(n, 0, 1, func(bits []int) {
			for _, c := range checkBins(t, inFresh(bits...)) {
				if c.ahead == 0 || c.ahead == c.through {
					t.Errorf("%v: %v", bits, c)
				}
			}
		})
	}
	d := dice(95)
	for _, ones := range []int{1, 2, 7, 8, 9, 15, 16, 17, 24, 32, 40, 64, 100} {
		for range 20 {
			bits := slices.Concat(alike(ones, 1), leaning(&d, 60, 80))
			for _, c := range checkBins(t, inFresh(bits...)) {
				if c.ahead == c.through {
					t.Errorf("%v: %v", bits, c)
				}
			}
		}
	}
}

// manyBins is a list of n bins, not all alike.
func manyBins(n int) []impl.Bin {
	d := dice(96)
	return binsFor(thrown(&d, n, 0, impl.MaxCtx-1), leaning(&d, n, 40))
}

func TestAsManyBinsAsCanBe(t *testing.T) {
	for _, n := range []int{impl.MaxBins - 1, impl.MaxBins} {
		list := manyBins(n)
		ctxs, bits := ctxsAndBits(list)
		want, _ := ruleEncode(list)
		b := impl.EncodeBins(list)
		if !bytes.Equal(b, want) {
			t.Errorf("%d bins: %d bytes, not %d", n, len(b), len(want))
		}
		if back := impl.DecodeBins(b, ctxs); !slices.Equal(back, bits) {
			t.Errorf("%d bins came back as %d others", n, len(back))
		}
		if back := impl.DecodeBins(nil, ctxs); !slices.Equal(back, make([]int, n)) {
			t.Errorf("%d bits of no bytes: %d", n, len(back))
		}
	}
	for _, n := range []int{impl.MaxBins + 1, impl.MaxBins + 2, 2 * impl.MaxBins, 1 << 20} {
		if b := impl.EncodeBins(manyBins(n)); len(b) != 0 {
			t.Errorf("%d bins: %d bytes", n, len(b))
		}
		if b := impl.EncodeBins(make([]impl.Bin, n)); len(b) != 0 {
			t.Errorf("%d zero bins: %d bytes", n, len(b))
		}
		for _, b := range [][]byte{nil, {1, 2, 3, 4, 5}} {
			if bits := impl.DecodeBins(b, make([]int, n)); len(bits) != 0 {
				t.Errorf("%d contexts: %d bits", n, len(bits))
			}
		}
	}
	for bit := range 2 {
		b := impl.EncodeBins(inOne(9, alike(impl.MaxBins, bit)...))
		if len(b) < 4 || len(b) > 24+impl.MaxBins/64 {
			t.Errorf("as many of %d as can be: %d bytes", bit, len(b))
		}
		if back := impl.DecodeBins(b, cycled(impl.MaxBins, 9)); !slices.Equal(back, alike(impl.MaxBins, bit)) {
			t.Errorf("as many of %d as can be came back as %d others", bit, len(back))
		}
	}
}

func wrongCtxs() []int {
	return append(far(), -2, -399, -400, 400, 401, 512, 799, 1<<16+1, 1<<32+399, -1<<32)
}

// isCtx leaves out what far has of contexts.
func isCtx(n int) bool { return between(0, 399, n) }

func TestBinsAtTheLimits(t *testing.T) {
	for _, x := range []struct {
		bin impl.Bin
		ok  bool
	}{
		{impl.Bin{Ctx: -1}, false}, {impl.Bin{Ctx: 0}, true}, {impl.Bin{Ctx: 1}, true}, {impl.Bin{Ctx: 398}, true}, {impl.Bin{Ctx: 399}, true}, {impl.Bin{Ctx: 400}, false},
		{impl.Bin{Bit: -1}, false}, {impl.Bin{Bit: 1}, true}, {impl.Bin{Bit: 2}, false}, {impl.Bin{Bit: 3}, false},
		{impl.Bin{Ctx: -1, Bit: 1}, false}, {impl.Bin{Ctx: 399, Bit: 1}, true}, {impl.Bin{Ctx: 400, Bit: 1}, false},
		{impl.Bin{Ctx: 399, Bit: 2}, false}, {impl.Bin{Ctx: 399, Bit: -1}, false}, {impl.Bin{Ctx: 400, Bit: 2}, false}, {impl.Bin{Ctx: -1, Bit: -1}, false},
	} {
		for _, n := range []int{1, 2, 3, 40, 300} {
			for at := range n {
				list := inOne(6, cycled(n, 0, 1, 1)...)
				list[at] = x.bin
				b := impl.EncodeBins(list)
				if !x.ok && len(b) != 0 {
					t.Errorf("%v at %d of %d: %v", x.bin, at, n, b)
				}
				if want, _ := ruleEncode(list); x.ok && !bytes.Equal(b, want) {
					t.Errorf("%v at %d of %d: %v, not %v", x.bin, at, n, b, want)
				}
			}
		}
	}
	for _, n := range []int{0, 199999} {
		for _, wrong := range []impl.Bin{{Ctx: 400}, {Ctx: -1}, {Bit: 2}, {Bit: -1}} {
			list := make([]impl.Bin, impl.MaxBins)
			list[n] = wrong
			if b := impl.EncodeBins(list); len(b) != 0 {
				t.Errorf("%v at %d of as many as can be: %d bytes", wrong, n, len(b))
			}
		}
	}
}

func TestNoBytesOfWrongBins(t *testing.T) {
	for _, n := range wrongCtxs() {
		for _, list := range [][]impl.Bin{{{Ctx: n}}, {{Ctx: n, Bit: 1}}, {{}, {Ctx: n}}, {{Ctx: n}, {}}, {{Bit: 1}, {Ctx: n, Bit: 1}, {}}} {
			if b := impl.EncodeBins(list); len(b) != 0 && !isCtx(n) {
				t.Errorf("%v: %v", list, b)
			}
		}
	}
	for _, n := range append(far(), 2, 3, -2, 255, 256, 257, 1<<32+1, -1<<32) {
		for _, list := range [][]impl.Bin{{{Bit: n}}, {{Ctx: 399, Bit: n}}, {{}, {Bit: n}}, {{Bit: n}, {}}, {{Bit: 1}, {Ctx: 5, Bit: n}, {}}} {
			if b := impl.EncodeBins(list); len(b) != 0 {
				t.Errorf("%v: %v", list, b)
			}
		}
	}
}

func TestContextsAtTheLimits(t *testing.T) {
	d := dice(97)
	b := bytesThrown(&d, 50)
	for _, x := range []struct {
		ctx int
		ok  bool
	}{{-1, false}, {0, true}, {1, true}, {398, true}, {399, true}, {400, false}, {401, false}} {
		for _, n := range []int{1, 2, 3, 40, 300} {
			for at := range n {
				ctxs := with(cycled(n, 6, 0, 399), at, x.ctx)
				for _, b := range [][]byte{nil, b} {
					if !x.ok && len(impl.DecodeBins(b, ctxs)) != 0 {
						t.Errorf("%d at %d of %d: bits", x.ctx, at, n)
					}
					if x.ok {
						checkDecode(t, b, ctxs)
					}
				}
			}
		}
	}
	for _, wrong := range wrongCtxs() {
		for _, ctxs := range [][]int{{wrong}, {0, wrong}, {wrong, 0}, {399, wrong, 1}, with(make([]int, impl.MaxBins), impl.MaxBins-1, wrong)} {
			for _, b := range [][]byte{nil, {128, 1, 2, 3}, b} {
				if bits := impl.DecodeBins(b, ctxs); len(bits) != 0 && !isCtx(wrong) {
					t.Errorf("a context of %d: %d bits", wrong, len(bits))
				}
			}
		}
	}
}

func TestReadingNoBits(t *testing.T) {
	for _, b := range [][]byte{nil, {}, {1}, {255, 255, 255, 255, 255}, make([]byte, 100)} {
		for _, ctxs := range [][]int{nil, {}} {
			if bits := impl.DecodeBins(b, ctxs); len(bits) != 0 {
				t.Errorf("none of %v: %v", b, bits)
			}
		}
	}
}

func TestReadingBitsByHand(t *testing.T) {
	for _, x := range []struct {
		what       string
		b          []byte
		ctxs, want []int
	}{
		{"no bytes", nil, []int{0, 0, 1}, []int{0, 0, 0}},
		{"all 255", []byte{255, 255, 255, 255}, []int{0, 0}, []int{1, 1}},
		{"just part", []byte{0x7f, 0xff, 0xf8, 0}, []int{0}, []int{1}},
		{"one below part", []byte{0x7f, 0xff, 0xf7, 0xff}, []int{0}, []int{0}},
		{"one byte, the others are 0", []byte{0x80}, []int{0}, []int{1}},
		{"one byte below part", []byte{0x7f}, []int{0}, []int{0}},
		{"two bytes below part", []byte{0x7f, 0xff}, []int{0}, []int{0}},
		{"three bytes, and a 0", []byte{0x7f, 0xff, 0xf8}, []int{0}, []int{1}},
		{"three bytes below part", []byte{0x7f, 0xff, 0xf7}, []int{0}, []int{0}},
		{"a 0, and just part", []byte{0x41, 0xff, 0xf7, 0xc0}, []int{3, 3}, []int{0, 1}},
		{"a 0, and one below part", []byte{0x41, 0xff, 0xf7, 0xbf}, []int{3, 3}, []int{0, 0}},
		{"a 1, and just part", []byte{0xbd, 0xff, 0xf8, 0}, []int{3, 3}, []int{1, 1}},
		{"a 1, and one below part", []byte{0xbd, 0xff, 0xf7, 0xff}, []int{3, 3}, []int{1, 0}},
		{"a 0 and a 1 of two contexts", []byte{0x3f, 0xff, 0xf8, 0}, []int{3, 4}, []int{0, 1}},
		// Eight 0 of fresh contexts take a byte, and leave part at 7ffc0000.
		{"just part behind a byte", []byte{0, 0x7f, 0xfc, 0, 0}, steps(0, 8), append(alike(8, 0), 1)},
		{"one below part behind a byte", []byte{0, 0x7f, 0xfb, 0xff, 0xff}, steps(0, 8), alike(9, 0)},
		{"just part behind three bytes", []byte{0, 0, 0, 0x7f, 0xfc, 0, 0}, steps(0, 24), append(alike(24, 0), 1)},
		{"one below part behind three bytes", []byte{0, 0, 0, 0x7f, 0xfb, 0xff, 0xff}, steps(0, 24), alike(25, 0)},
		{"just part, the last two bytes are not there", []byte{0, 0, 0, 0x7f, 0xfc}, steps(0, 24), append(alike(24, 0), 1)},
		{"below part, the last three bytes are not there", []byte{0, 0, 0, 0x7f}, steps(0, 24), alike(25, 0)},
	} {
		if bits := impl.DecodeBins(x.b, x.ctxs); !slices.Equal(bits, x.want) {
			t.Errorf("%s: %v", x.what, bits)
		}
	}
}

// Bytes beyond the end are 0, wherever the end is.
func TestReadingBitsThatEndTooEarly(t *testing.T) {
	for _, list := range append(carryLists(), binsToTry()...) {
		if len(list) > 400 {
			continue
		}
		ctxs, _ := ctxsAndBits(list)
		b := impl.EncodeBins(list)
		for size := range b {
			if size > 6 && size < len(b)-6 {
				continue
			}
			short := slices.Clone(b[:size])
			filled := slices.Concat(short, make([]byte, len(b)-size))
			checkDecode(t, short, ctxs)
			if bits := impl.DecodeBins(short, ctxs); !slices.Equal(bits, impl.DecodeBins(filled, ctxs)) {
				t.Errorf("%v, cut off at %d: %v", b, size, bits)
			}
		}
	}
}

// In bytes that EncodeBins never makes code may be beyond range, and more than
// can be kept of it.
func TestReadingBytesThatWereNeverWritten(t *testing.T) {
	d := dice(98)
	cuts := 0
	for _, n := range []int{1, 30, 300, 1500} {
		for _, ctxs := range contextsToTry(&d, n) {
			for _, size := range []int{0, 1, 2, 3, 4, 5, 6, 7, 8, 9, 16, 33, 60, 200} {
				full := bytes.Repeat([]byte{255}, size)
				cuts += checkDecode(t, full, ctxs)
				cuts += checkDecode(t, slices.Concat(full, bytesThrown(&d, 40)), ctxs)
				cuts += checkDecode(t, slices.Concat(full, make([]byte, 9), full), ctxs)
			}
		}
	}
	if cuts < 300 {
		t.Errorf("code was cut %d times", cuts)
	}
}

// Where range is just 16777216 code stays as it is, even beyond range, as it
// is with bytes of 255: all bits up to there are 1.
func TestReadingWithTheLeastRange(t *testing.T) {
	for _, x := range []struct {
		d dice
		n int
	}{{134508, 26}, {351598, 34}, {564448, 34}} {
		ctxs := thrown(&x.d, 80, 0, 9)
		m := newRuleModel()
		for _, ctx := range ctxs[:x.n] {
			if m.take(ctx, 1) {
				m.widen()
			}
		}
		full := bytes.Repeat([]byte{255}, 40)
		ahead, _ := ruleDecode(full, ctxs[:x.n])
		if m.width.Cmp(big.NewInt(16777216)) != 0 || !slices.Equal(ahead, alike(x.n, 1)) {
			t.Errorf("the rule has a range of %v behind %v", m.width, ahead)
		}
		for n := range len(ctxs) + 1 {
			checkDecode(t, full, ctxs[:n])
		}
	}
}

func TestReadingThrownBytes(t *testing.T) {
	d := dice(99)
	for range 60 {
		for _, ctxs := range contextsToTry(&d, 1+d.below(400)) {
			checkDecode(t, bytesThrown(&d, d.below(60)), ctxs)
		}
	}
	for x := range 256 {
		checkDecode(t, []byte{byte(x)}, steps(0, 50))
		checkDecode(t, []byte{255, byte(x)}, cycled(50, 1, 2))
		checkDecode(t, []byte{255, 255, 255, 255, byte(x)}, cycled(50, 1))
	}
}

// How long the bytes are has no limit.
func TestReadingBitsOfVeryManyBytes(t *testing.T) {
	d := dice(100)
	b := bytesThrown(&d, 3*impl.MaxBytes)
	checkDecode(t, b, thrown(&d, 2000, 0, 399))
	checkDecode(t, b, cycled(impl.MaxBins, steps(0, 399)...))
}

func TestBinsLeaveArgumentsAlone(t *testing.T) {
	for _, x := range binsToTry() {
		list := guard(x, impl.Bin{Bit: 1}, impl.Bin{Ctx: 400}, impl.Bin{Bit: 2})
		want, _ := ruleEncode(x)
		if b := impl.EncodeBins(list.list); !bytes.Equal(b, want) {
			t.Errorf("EncodeBins read what lies behind %v", x)
		}
		list.check(t, "EncodeBins")
		all, bits := ctxsAndBits(x)
		ctxs := guard(all, 0, 400, -1)
		// A byte that is cut off lies in the room behind.
		for _, text := range []guarded[byte]{guard(want, 255, 1, 2), guard(want[:len(want)-1], want[len(want)-1]|1, 255), guard([]byte(nil), want...), guard([]byte{9}, 255, 255, 255, 255)} {
			back, _ := ruleDecode(slices.Clone(text.list), all)
			if got := impl.DecodeBins(text.list, ctxs.list); !slices.Equal(got, back) {
				t.Errorf("DecodeBins read what lies behind %v", text.list)
			}
			text.check(t, "DecodeBins")
		}
		ctxs.check(t, "DecodeBins")
		if back := impl.DecodeBins(want, ctxs.list); !slices.Equal(back, bits) {
			t.Errorf("%v: came back as %v", x, back)
		}
	}
	for _, wrong := range [][]impl.Bin{{{Ctx: 400}}, {{Bit: 1}, {Bit: 2}}, make([]impl.Bin, impl.MaxBins+1)} {
		list := guard(wrong, impl.Bin{})
		if len(impl.EncodeBins(list.list)) != 0 {
			t.Error("taken with what lies behind")
		}
		list.check(t, "EncodeBins of wrong bins")
	}
	for _, wrong := range [][]int{{400}, {0, -1}, make([]int, impl.MaxBins+1)} {
		ctxs, b := guard(wrong, 0, 1), guard([]byte{1, 2, 3, 4}, 5, 6)
		if len(impl.DecodeBins(b.list, ctxs.list)) != 0 {
			t.Error("taken with what lies behind")
		}
		ctxs.check(t, "DecodeBins of wrong contexts")
		b.check(t, "DecodeBins of wrong contexts")
	}
}

func TestBinsAreNewMemory(t *testing.T) {
	for i, list := range append(carryLists(), binsToTry()...) {
		what := "list " + strconv.Itoa(i)
		was := slices.Clone(list)
		ctxs, bits := ctxsAndBits(list)
		b, other := impl.EncodeBins(list), impl.EncodeBins(list)
		right := slices.Clone(b)
		scribble(b, 77)
		if !slices.Equal(list, was) || !bytes.Equal(other, right) || !bytes.Equal(impl.EncodeBins(list), right) {
			t.Errorf("%s: bytes share memory", what)
		}
		keep := slices.Clone(ctxs)
		back, again := impl.DecodeBins(other, ctxs), impl.DecodeBins(other, ctxs)
		scribble(back, 12345)
		if !bytes.Equal(other, right) || !slices.Equal(ctxs, keep) || !slices.Equal(again, bits) {
			t.Errorf("%s: bits share memory", what)
		}
		scribble(other, 99)
		scribble(ctxs, 0)
		if !slices.Equal(again, bits) {
			t.Errorf("%s: bits change with what they were read from", what)
		}
	}
}

// What one call learns no other one knows.
func TestBinsAnswerTheSameAgain(t *testing.T) {
	list := inOne(0, 0, 1, 1, 0, 1, 1, 1, 0)
	ctxs, bits := ctxsAndBits(list)
	want, _ := ruleEncode(list)
	for _, other := range binsToTry() {
		impl.EncodeBins(other)
		impl.EncodeBins(append(slices.Clone(other), impl.Bin{Ctx: 400}))
		if b := impl.EncodeBins(list); !bytes.Equal(b, want) {
			t.Fatalf("behind %v: %v", other, b)
		}
		all, _ := ctxsAndBits(other)
		impl.DecodeBins([]byte{255, 3, 200}, all)
		if back := impl.DecodeBins(want, ctxs); !slices.Equal(back, bits) {
			t.Fatalf("behind %v: %v", other, back)
		}
	}
}
