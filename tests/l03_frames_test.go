package tests

import (
	"bytes"
	"math"
	"slices"
	"strconv"
	"testing"

	"loop.example/g00139/impl"
)

// plainComps are n components of one block each, with Ids from 1 on.
func plainComps(n int) []impl.Comp {
	var list []impl.Comp
	for i := range n {
		list = append(list, impl.Comp{Id: 1 + i, H: 1, V: 1, Q: i % 4})
	}
	return list
}

func frameWith(comps ...impl.Comp) impl.Frame {
	return impl.Frame{Prec: 8, Width: 40, Height: 30, Restart: 5, Comps: comps}
}

func plainFrame(n int) impl.Frame { return frameWith(plainComps(n)...) }

// changed is a plain frame of n components after a change.
func changed(n int, change func(f *impl.Frame)) impl.Frame {
	f := plainFrame(n)
	change(&f)
	return f
}

func sized(w, h int) impl.Frame {
	return changed(1, func(f *impl.Frame) { f.Width, f.Height = w, h })
}

func sameFrame(x, y impl.Frame) bool {
	return x.Prec == y.Prec && x.Width == y.Width && x.Height == y.Height && x.Restart == y.Restart && slices.Equal(x.Comps, y.Comps)
}

func cloneFrame(f impl.Frame) impl.Frame {
	f.Comps = slices.Clone(f.Comps)
	return f
}

func isZeroFrame(f impl.Frame) bool { return sameFrame(f, impl.Frame{}) }

// frameText writes a frame by another way than the program's.
func frameText(f impl.Frame) []byte {
	nums := []int{f.Prec, f.Width - 1, f.Height - 1, f.Restart, len(f.Comps)}
	for _, c := range f.Comps {
		nums = append(nums, c.Id, 16*c.H+c.V, c.Q)
	}
	var out []byte
	for _, n := range nums {
		out = append(out, byte(n))
	}
	return out
}

// between tells whether all numbers are in low .. high.
func between(low, high int, nums ...int) bool {
	return slices.Min(nums) >= low && slices.Max(nums) <= high
}

// frameRule is FrameOk by another way than the program's.
func frameRule(f impl.Frame) bool {
	if !slices.Contains([]int{8, 12}, f.Prec) || !between(1, 256, f.Width, f.Height) || f.Width > 16384/f.Height || !between(0, 255, f.Restart) {
		return false
	}
	if !between(1, 4, len(f.Comps)) {
		return false
	}
	ids, sum := map[int]bool{}, 0
	for _, c := range f.Comps {
		if !between(0, 255, c.Id) || !between(1, 4, c.H, c.V) || !between(0, 3, c.Q) {
			return false
		}
		ids[c.Id] = true
		sum += c.H * c.V
	}
	return len(ids) == len(f.Comps) && sum <= 10
}

// frameOfBytes reads a frame by the rule alone; false where it is none.
func frameOfBytes(b []byte) (impl.Frame, bool) {
	if len(b) < 5 || len(b) != 5+3*int(b[4]) {
		return impl.Frame{}, false
	}
	f := impl.Frame{Prec: int(b[0]), Width: int(b[1]) + 1, Height: int(b[2]) + 1, Restart: int(b[3])}
	for c := range slices.Chunk(b[5:], 3) {
		f.Comps = append(f.Comps, impl.Comp{Id: int(c[0]), H: int(c[1] >> 4), V: int(c[1] & 15), Q: int(c[2])})
	}
	if !frameRule(f) {
		return impl.Frame{}, false
	}
	return f, true
}

func goodFrames() map[string]impl.Frame {
	m := map[string]impl.Frame{
		"Prec 12":          changed(1, func(f *impl.Frame) { f.Prec = 12 }),
		"1 by 1":           sized(1, 1),
		"MaxSide by 1":     sized(impl.MaxSide, 1),
		"1 by MaxSide":     sized(1, impl.MaxSide),
		"MaxArea, a wide":  sized(256, 64),
		"MaxArea, a high":  sized(64, 256),
		"MaxArea, square":  sized(128, 128),
		"one less":         sized(127, 129),
		"Restart 0":        changed(1, func(f *impl.Frame) { f.Restart = 0 }),
		"Restart 255":      changed(1, func(f *impl.Frame) { f.Restart = 255 }),
		"Ids 0 and 255":    frameWith(impl.Comp{Id: 0, H: 1, V: 1}, impl.Comp{Id: 255, H: 1, V: 1}),
		"Ids that fall":    frameWith(impl.Comp{Id: 9, H: 1, V: 1}, impl.Comp{Id: 4, H: 1, V: 1}, impl.Comp{Id: 3, H: 1, V: 1}),
		"alike but for Id": frameWith(impl.Comp{Id: 1, H: 1, V: 2, Q: 3}, impl.Comp{Id: 2, H: 1, V: 2, Q: 3}),
		"4 by 1":           frameWith(impl.Comp{Id: 1, H: 4, V: 1}),
		"1 by 4":           frameWith(impl.Comp{Id: 1, H: 1, V: 4}),
		"sum 10 of two":    frameWith(impl.Comp{Id: 1, H: 4, V: 2}, impl.Comp{Id: 2, H: 1, V: 2}),
		"sum 10 of three":  frameWith(impl.Comp{Id: 1, H: 2, V: 4}, impl.Comp{Id: 2, H: 1, V: 1}, impl.Comp{Id: 3, H: 1, V: 1}),
		"sum 10 of four":   frameWith(impl.Comp{Id: 1, H: 2, V: 2}, impl.Comp{Id: 2, H: 2, V: 2}, impl.Comp{Id: 3, H: 1, V: 1}, impl.Comp{Id: 4, H: 1, V: 1}),
		"sum 10, the last": frameWith(impl.Comp{Id: 1, H: 1, V: 1}, impl.Comp{Id: 2, H: 3, V: 3}),
		"Q 3":              frameWith(impl.Comp{Id: 1, H: 1, V: 1, Q: 3}),
		"all at the limit": {Prec: 12, Width: 256, Height: 64, Restart: 255, Comps: []impl.Comp{{Id: 255, H: 1, V: 4, Q: 3}, {Id: 254, H: 4, V: 1, Q: 3}, {Id: 253, H: 1, V: 1, Q: 3}, {Id: 252, H: 1, V: 1, Q: 3}}},
		"all the least":    {Prec: 8, Width: 1, Height: 1, Restart: 0, Comps: []impl.Comp{{H: 1, V: 1}}},
	}
	for n := 1; n <= impl.MaxComps; n++ {
		m[strconv.Itoa(n)+" components"] = plainFrame(n)
	}
	return m
}

// far are numbers that no field of a frame may have.
func far() []int {
	return []int{-1, -8, -256, 257, 1 << 16, 1 << 31, 1 << 32, 1<<32 + 1, 1<<32 + 8, 1 << 62, math.MinInt, math.MinInt + 1, math.MaxInt}
}

func wrongFrames() map[string]impl.Frame {
	m := map[string]impl.Frame{
		"the zero Frame":          {},
		"no component":            plainFrame(0),
		"an empty list of them":   frameWith([]impl.Comp{}...),
		"MaxComps and one more":   plainFrame(impl.MaxComps + 1),
		"256 and one":             frameWith(slices.Repeat(plainComps(1), 257)...),
		"many":                    plainFrame(200),
		"MaxArea and 1 more":      sized(113, 145),
		"MaxArea, a column more":  sized(129, 128),
		"MaxArea, a row more":     sized(128, 129),
		"MaxArea, 256 by 65":      sized(256, 65),
		"MaxSide by MaxSide":      sized(256, 256),
		"both sides below 0":      sized(-1, -1),
		"a product that is 0":     sized(1<<32, 1<<32),
		"a product that is 1":     sized(math.MaxInt, math.MaxInt),
		"no width, a high":        sized(0, impl.MaxSide+1),
		"two alike":               frameWith(impl.Comp{Id: 3, H: 1, V: 1}, impl.Comp{Id: 3, H: 2, V: 1, Q: 1}),
		"two of noughts":          frameWith(impl.Comp{H: 1, V: 1}, impl.Comp{H: 1, V: 1}),
		"first and last alike":    frameWith(append(plainComps(3), impl.Comp{Id: 1, H: 1, V: 1})...),
		"the last two alike":      frameWith(append(plainComps(3), impl.Comp{Id: 3, H: 1, V: 1})...),
		"alike up to 256":         frameWith(impl.Comp{Id: 0, H: 1, V: 1}, impl.Comp{Id: 256, H: 1, V: 1}),
		"all alike":               frameWith(slices.Repeat(plainComps(1), 4)...),
		"sum 11 of two":           frameWith(impl.Comp{Id: 1, H: 3, V: 3}, impl.Comp{Id: 2, H: 2, V: 1}),
		"sum 11 of three":         frameWith(impl.Comp{Id: 1, H: 2, V: 4}, impl.Comp{Id: 2, H: 1, V: 2}, impl.Comp{Id: 3, H: 1, V: 1}),
		"sum 11 of four":          frameWith(impl.Comp{Id: 1, H: 2, V: 2}, impl.Comp{Id: 2, H: 2, V: 2}, impl.Comp{Id: 3, H: 1, V: 1}, impl.Comp{Id: 4, H: 1, V: 2}),
		"sum 12 of one":           frameWith(impl.Comp{Id: 1, H: 4, V: 3}),
		"sum 16 of one":           frameWith(impl.Comp{Id: 1, H: 4, V: 4}),
		"H and V below 0":         frameWith(impl.Comp{Id: 1, H: -1, V: -1}),
		"a sum that wraps":        frameWith(impl.Comp{Id: 1, H: 1 << 32, V: 1 << 32}),
		"H 1 and V 17, as 2 by 1": frameWith(impl.Comp{Id: 1, H: 1, V: 17}),
	}
	for _, p := range []int{0, 1, 7, 9, 10, 11, 13, 16, 20, 264, 268} {
		m["Prec "+strconv.Itoa(p)] = changed(1, func(f *impl.Frame) { f.Prec = p })
	}
	for what, field := range frameFields() {
		for _, n := range far() {
			f := plainFrame(3)
			*field(&f) = n
			m[what+" "+strconv.Itoa(n)] = f
		}
	}
	return m
}

// frameFields finds each number of a frame of three components.
func frameFields() map[string]func(f *impl.Frame) *int {
	m := map[string]func(f *impl.Frame) *int{
		"Prec":    func(f *impl.Frame) *int { return &f.Prec },
		"Width":   func(f *impl.Frame) *int { return &f.Width },
		"Height":  func(f *impl.Frame) *int { return &f.Height },
		"Restart": func(f *impl.Frame) *int { return &f.Restart },
	}
	for i := range 3 {
		at := " of " + strconv.Itoa(i)
		m["Id"+at] = func(f *impl.Frame) *int { return &f.Comps[i].Id }
		m["H"+at] = func(f *impl.Frame) *int { return &f.Comps[i].H }
		m["V"+at] = func(f *impl.Frame) *int { return &f.Comps[i].V }
		m["Q"+at] = func(f *impl.Frame) *int { return &f.Comps[i].Q }
	}
	return m
}

func checkFrame(t *testing.T, what string, f impl.Frame) {
	t.Helper()
	if !impl.FrameOk(f) {
		t.Fatalf("%s: %v is not FrameOk", what, f)
	}
	b := impl.WriteFrame(f)
	if !bytes.Equal(b, frameText(f)) {
		t.Fatalf("%s: %v is written as %v", what, f, b)
	}
	if x, ok := impl.ReadFrame(b); !ok || !sameFrame(x, f) {
		t.Fatalf("%s: %v is read back as %v, %v", what, f, x, ok)
	}
}

func checkNoFrame(t *testing.T, what string, f impl.Frame) {
	t.Helper()
	if impl.FrameOk(f) {
		t.Fatalf("%s: %v is FrameOk", what, f)
	}
	if b := impl.WriteFrame(f); len(b) != 0 {
		t.Fatalf("%s: %v is written as %v", what, f, b)
	}
}

// checkByRule asks the program of a frame what the rule says of it.
func checkByRule(t *testing.T, what string, f impl.Frame) {
	t.Helper()
	if frameRule(f) {
		checkFrame(t, what, f)
	} else {
		checkNoFrame(t, what, f)
	}
}

// checkBytes asks the program of bytes what the rule says of them, and that
// what is read of them gives them again.
func checkBytes(t *testing.T, what string, b []byte) {
	t.Helper()
	want, wantOk := frameOfBytes(b)
	x, ok := impl.ReadFrame(b)
	if ok != wantOk || !sameFrame(x, want) {
		t.Fatalf("%s: %v is read as %v, %v, and not as %v, %v", what, b, x, ok, want, wantOk)
	}
	if ok && (!impl.FrameOk(x) || !bytes.Equal(impl.WriteFrame(x), b)) {
		t.Fatalf("%s: %v is read as %v, which gives %v", what, b, x, impl.WriteFrame(x))
	}
}

func TestFrameConstants(t *testing.T) {
	if impl.MaxSide != 256 || impl.MaxArea != 16384 || impl.MaxComps != 4 {
		t.Fatal(impl.MaxSide, impl.MaxArea, impl.MaxComps)
	}
}

func TestFrameByHand(t *testing.T) {
	f := impl.Frame{Prec: 8, Width: 1, Height: 256, Restart: 255, Comps: []impl.Comp{{Id: 255, H: 1, V: 4, Q: 3}, {Id: 0, H: 3, V: 2, Q: 1}}}
	b := []byte{8, 0, 255, 255, 2, 255, 20, 3, 0, 50, 1}
	if got := impl.WriteFrame(f); !bytes.Equal(got, b) {
		t.Error(got)
	}
	if got, ok := impl.ReadFrame(b); !ok || !sameFrame(got, f) {
		t.Error(got, ok)
	}
}

func TestFramesReadBack(t *testing.T) {
	for what, f := range goodFrames() {
		if !frameRule(f) {
			t.Fatalf("%s: the rule refuses it", what)
		}
		checkFrame(t, what, f)
	}
}

func TestFramesRefused(t *testing.T) {
	for what, f := range wrongFrames() {
		if frameRule(f) {
			t.Fatalf("%s: the rule takes it", what)
		}
		checkNoFrame(t, what, f)
	}
}

// Each number of a frame of three components, through all limits and past them.
func TestFrameFields(t *testing.T) {
	for what, field := range frameFields() {
		for n := -20; n <= 300; n++ {
			f := plainFrame(3)
			*field(&f) = n
			checkByRule(t, what+" "+strconv.Itoa(n), f)
		}
	}
}

func TestFrameSides(t *testing.T) {
	for w := -1; w <= impl.MaxSide+1; w++ {
		for h := -1; h <= impl.MaxSide+1; h++ {
			checkByRule(t, "sides", sized(w, h))
		}
	}
}

// All H and V of the first two components, with a third and a fourth of no
// more than 8 blocks each.
func TestFrameShares(t *testing.T) {
	lists := [][]impl.Comp{nil}
	for i := 0; i < len(lists); i++ {
		n := len(lists[i])
		checkByRule(t, "shares", frameWith(lists[i]...))
		if n == impl.MaxComps {
			continue
		}
		for hv := range 36 {
			c := impl.Comp{Id: 7 * n, H: hv / 6, V: hv % 6, Q: n}
			if n < 2 || between(1, 8, c.H*c.V) {
				lists = append(lists, slices.Concat(lists[i], []impl.Comp{c}))
			}
		}
	}
}

func TestFrameIds(t *testing.T) {
	for n := 2; n <= impl.MaxComps; n++ {
		for i := range n {
			for j := range i {
				for _, id := range []int{0, 1, 9, 255} {
					f := changed(n, func(f *impl.Frame) { f.Comps[i].Id, f.Comps[j].Id = id, id })
					checkNoFrame(t, "Ids alike", f)
					if b := frameText(f); !refused(b) {
						t.Fatalf("read although two Ids are alike: %v", b)
					}
				}
			}
		}
	}
}

// refused tells whether bytes are answered as those of no frame: false, and
// the zero Frame.
func refused(b []byte) bool {
	f, ok := impl.ReadFrame(b)
	return !ok && isZeroFrame(f)
}

func TestFrameBytesOfAnotherLength(t *testing.T) {
	for what, f := range goodFrames() {
		b := impl.WriteFrame(f)
		for n := range b {
			// The other bytes stand behind, and must not be seen.
			if !refused(b[:n]) {
				t.Errorf("%s: read although cut to %d bytes", what, n)
			}
		}
		for more := 1; more <= 300; more++ {
			if !refused(append(bytes.Clone(b), make([]byte, more)...)) {
				t.Errorf("%s: read with %d bytes more", what, more)
			}
		}
		if !refused(b[1:]) || !refused(slices.Concat([]byte{8}, b)) {
			t.Errorf("%s: read although it begins elsewhere", what)
		}
	}
	for what, b := range map[string][]byte{"nil": nil, "empty": {}, "noughts": make([]byte, 8), "long": make([]byte, impl.MaxBytes+1)} {
		if !refused(b) {
			t.Errorf("%s: read", what)
		}
	}
}

// Each number of components with each length up to some behind the longest.
func TestFrameCountAndLength(t *testing.T) {
	for count := range 256 {
		b := []byte{8, 39, 29, 5, byte(count)}
		for i := range 90 {
			b = append(b, byte(i), 17, byte(i%4))
		}
		for n := range 24 {
			checkBytes(t, "count "+strconv.Itoa(count), b[:n])
		}
		if n := 5 + 3*count; n < len(b) {
			checkBytes(t, "count "+strconv.Itoa(count), b[:n])
		}
	}
}

// Each byte of each frame, through all of its values.
func TestFrameBytesChanged(t *testing.T) {
	for what, f := range goodFrames() {
		for at := range frameText(f) {
			for x := range 256 {
				b := frameText(f)
				b[at] = byte(x)
				checkBytes(t, what+", byte "+strconv.Itoa(at), b)
			}
		}
	}
}

func TestFrameBytesByHand(t *testing.T) {
	for what, b := range map[string][]byte{
		"Prec 0":             {0, 7, 7, 0, 1, 1, 17, 0},
		"Prec 10":            {10, 7, 7, 0, 1, 1, 17, 0},
		"MaxArea and a row":  {8, 127, 128, 0, 1, 1, 17, 0},
		"MaxSide by MaxSide": {8, 255, 255, 0, 1, 1, 17, 0},
		"no component":       {8, 7, 7, 0, 0},
		"none, but bytes":    {8, 7, 7, 0, 0, 1, 17, 0},
		"one, but no bytes":  {8, 7, 7, 0, 1},
		"two, but one":       {8, 7, 7, 0, 2, 1, 17, 0},
		"one, but two":       {8, 7, 7, 0, 1, 1, 17, 0, 2, 17, 0},
		"five":               {8, 7, 7, 0, 5, 1, 17, 0, 2, 17, 0, 3, 17, 0, 4, 17, 0, 5, 17, 0},
		"H 0":                {8, 7, 7, 0, 1, 1, 1, 0},
		"V 0":                {8, 7, 7, 0, 1, 1, 16, 0},
		"H 5":                {8, 7, 7, 0, 1, 1, 81, 0},
		"V 5":                {8, 7, 7, 0, 1, 1, 21, 0},
		"Q 4":                {8, 7, 7, 0, 1, 1, 17, 4},
		"alike":              {8, 7, 7, 0, 2, 1, 17, 0, 1, 17, 0},
		"sum 11":             {8, 7, 7, 0, 2, 1, 0x33, 0, 2, 0x12, 0},
	} {
		if !refused(b) {
			t.Errorf("%s: read", what)
		}
	}
}

// Whatever bytes are read as a frame are those that WriteFrame gives of it.
func TestFrameOfThrownBytes(t *testing.T) {
	d := dice(3)
	read := 0
	for range 200000 {
		count := d.below(6)
		b := []byte{byte(8 + 4*d.below(2)), byte(d.below(256)), byte(d.below(256)), byte(d.below(256)), byte(count)}
		for range count {
			b = append(b, byte(d.below(9)), byte(16*d.below(4)+d.below(4)+d.below(2)*17), byte(d.below(5)))
		}
		if d.below(3) == 0 {
			b[d.below(len(b))] = byte(d.below(256))
		}
		checkBytes(t, "thrown", b)
		if !refused(b) {
			read++
		}
	}
	if read < 1000 {
		t.Fatalf("only %d rows of bytes were read", read)
	}
}

func TestFramesLeaveArguments(t *testing.T) {
	behind := []impl.Comp{{Id: 77, H: 1, V: 1}, {Id: 1, H: 9, V: 9, Q: 9}}
	for _, frames := range []map[string]impl.Frame{goodFrames(), wrongFrames()} {
		for what, f := range frames {
			g := guard(f.Comps, behind...)
			own := f
			own.Comps = g.list
			ok, b := impl.FrameOk(own), impl.WriteFrame(own)
			g.check(t, what)
			if ok != frameRule(f) || ok && !bytes.Equal(b, frameText(f)) {
				t.Errorf("%s: another answer with other room behind the list", what)
			}
			r := guard(frameText(f), 9, 17, 0)
			x, ok := impl.ReadFrame(r.list)
			r.check(t, what)
			if want, wantOk := frameOfBytes(frameText(f)); ok != wantOk || !sameFrame(x, want) {
				t.Errorf("%s: another answer with other room behind the bytes", what)
			}
		}
	}
}

func TestFrameAnswersAreNewMemory(t *testing.T) {
	for what, f := range goodFrames() {
		own := cloneFrame(f)
		b, again := impl.WriteFrame(own), impl.WriteFrame(own)
		x, _ := impl.ReadFrame(again)
		y, _ := impl.ReadFrame(again)
		scribble(again, 77)
		scribble(y.Comps, impl.Comp{Id: 88})
		if !sameFrame(x, f) {
			t.Errorf("%s: what was read shares memory with the bytes or with another answer", what)
		}
		scribble(own.Comps, impl.Comp{Id: 66})
		if !bytes.Equal(b, frameText(f)) {
			t.Errorf("%s: what was written shares memory with the frame or with another answer", what)
		}
		checkFrame(t, what+" again", f)
	}
}
