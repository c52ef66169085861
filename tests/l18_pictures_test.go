package tests

import (
	"bytes"
	"math"
	"runtime"
	"slices"
	"strconv"
	"sync"
	"testing"
	"time"

	"loop.example/g00139/impl"
)

// pictureRule is PictureOk by the chapter's words, without multiplying numbers
// that may be too great for it.
func pictureRule(p impl.Picture) bool {
	if p.Prec != 8 && p.Prec != 12 || !between(1, 256, p.Width, p.Height) || p.Height > 16384/p.Width {
		return false
	}
	for _, plane := range p.Planes {
		if len(plane) != p.Width*p.Height || !between(0, topOf(p.Prec), plane...) {
			return false
		}
	}
	return between(1, 4, len(p.Planes))
}

func optionsRule(o impl.Options) bool {
	return between(0, 100, o.Quality) && between(0, 1, o.Mode) && between(0, 2, o.Kind) && between(0, 255, o.Restart)
}

func inColour(p impl.Picture, o impl.Options) bool { return o.Colour && len(p.Planes) == 3 }

// ruleFrameFor is FrameFor by the chapter's words.
func ruleFrameFor(p impl.Picture, o impl.Options) impl.Frame {
	if !pictureRule(p) || !optionsRule(o) {
		return impl.Frame{}
	}
	f := impl.Frame{Prec: p.Prec, Width: p.Width, Height: p.Height, Restart: o.Restart}
	for i := range p.Planes {
		c := impl.Comp{Id: 1 + i, H: 1, V: 1, Q: min(i, 1)}
		if inColour(p, o) {
			c.Id = 11 + i
		}
		if o.Half && i == 0 && between(3, 4, len(p.Planes)) {
			c.H, c.V = 2, 2
		}
		f.Comps = append(f.Comps, c)
	}
	return f
}

// eachPixel are planes of which each pixel went through ask.
func eachPixel(planes [][]int, ask func(px []int) []int) [][]int {
	out := make([][]int, len(planes))
	for i := range planes[0] {
		px := []int{}
		for _, plane := range planes {
			px = append(px, plane[i])
		}
		for k, n := range ask(px) {
			out[k] = append(out[k], n)
		}
	}
	return out
}

// moved is a list with something added to each number.
func moved(list []int, by int) []int {
	out := make([]int, 0, len(list))
	for _, n := range list {
		out = append(out, n+by)
	}
	return out
}

// ruleWaves are the blocks of a component's plane.
func ruleWaves(f impl.Frame, comp int, plane, q []int) [][]int {
	w, h := impl.SizeOf(f, comp)
	wide, high := impl.BlocksOf(f, comp)
	small := impl.Shrink(plane, f.Width, f.Height, w, h)
	great := impl.Pad(small, w, h, 8*wide, 8*high)
	var blocks [][]int
	for i, samples := range impl.CutBlocks(great, 8*wide, 8*high) {
		block := flat(0)
		if 8*(i/wide) < h && 8*(i%wide) < w {
			block = impl.Quantize(impl.Forward(moved(samples, -halfOf(f.Prec))), q)
		}
		blocks = append(blocks, block)
	}
	return blocks
}

// ruleStreamFor is StreamFor by the chapter's words, made of the functions of
// the chapters before.
func ruleStreamFor(p impl.Picture, o impl.Options) impl.Stream {
	if !pictureRule(p) || !optionsRule(o) {
		return impl.Stream{}
	}
	f := ruleFrameFor(p, o)
	s := impl.Stream{Frame: f, Mode: o.Mode, Script: ruleScriptFor(f, o.Kind)}
	for kind := range 4 {
		s.Tables = append(s.Tables, impl.Scale(impl.Plain(kind), o.Quality))
	}
	planes := p.Planes
	if inColour(p, o) {
		planes = eachPixel(planes, func(px []int) []int { return impl.ToYcc(p.Prec, px) })
	}
	for comp, plane := range planes {
		s.Coefs.Planes = append(s.Coefs.Planes, ruleWaves(f, comp, plane, s.Tables[min(comp, 1)]))
	}
	return s
}

// ruleSamples is the plane, as great as the frame, of a component's blocks, and
// how many samples had to be brought to 0 or to the top.
func ruleSamples(f impl.Frame, comp int, blocks [][]int, q []int) ([]int, [2]int) {
	w, h := impl.SizeOf(f, comp)
	wide, high := impl.BlocksOf(f, comp)
	brought := [2]int{}
	var all [][]int
	for _, block := range blocks {
		samples := moved(impl.Inverse(impl.Dequantize(block, q)), halfOf(f.Prec))
		for i, n := range samples {
			if n < 0 {
				brought[0]++
			}
			if n > topOf(f.Prec) {
				brought[1]++
			}
			samples[i] = broughtBack(f.Prec, n)
		}
		all = append(all, samples)
	}
	great := impl.JoinBlocks(all, 8*wide, 8*high)
	return impl.Grow(impl.Crop(great, 8*wide, 8*high, w, h), w, h, f.Width, f.Height), brought
}

// isColoured tells whether a stream's pixels are to be turned by FromYcc.
func isColoured(f impl.Frame) bool { return len(f.Comps) == 3 && f.Comps[0].Id == 11 }

// rulePictureOf is PictureOf by the chapter's words, made of the functions of
// the chapters before.
func rulePictureOf(s impl.Stream) impl.Picture {
	if !streamRule(s) {
		return impl.Picture{}
	}
	p := impl.Picture{Prec: s.Frame.Prec, Width: s.Frame.Width, Height: s.Frame.Height}
	for comp, c := range s.Frame.Comps {
		plane, _ := ruleSamples(s.Frame, comp, s.Coefs.Planes[comp], s.Tables[c.Q])
		p.Planes = append(p.Planes, plane)
	}
	if isColoured(s.Frame) {
		p.Planes = eachPixel(p.Planes, func(px []int) []int { return impl.FromYcc(p.Prec, px) })
	}
	return p
}

func samePicture(a, b impl.Picture) bool {
	return a.Prec == b.Prec && a.Width == b.Width && a.Height == b.Height && sameBlocks(a.Planes, b.Planes)
}

func isZeroPicture(p impl.Picture) bool { return samePicture(p, impl.Picture{}) }

func clonePicture(p impl.Picture) impl.Picture {
	p.Planes = cloneBlocks(p.Planes)
	return p
}

// otherwise is a picture in new memory after a change.
func otherwise(p impl.Picture, change func(p *impl.Picture)) impl.Picture {
	p = clonePicture(p)
	change(&p)
	return p
}

// pictureShown tells of a picture and options what is not too long.
func pictureShown(p impl.Picture, o impl.Options) string {
	nums := []int{p.Prec, p.Width, p.Height, len(p.Planes), o.Quality, o.Mode, o.Kind, o.Restart}
	text := "prec, sides, planes, quality, mode, kind, restart"
	for _, n := range nums {
		text += " " + strconv.Itoa(n)
	}
	return text + ", colour " + strconv.FormatBool(o.Colour) + ", half " + strconv.FormatBool(o.Half)
}

// pictureFrom has planes of the samples that at tells of each place.
func pictureFrom(prec, w, h, planes int, at func(plane, row, col int) int) impl.Picture {
	p := impl.Picture{Prec: prec, Width: w, Height: h}
	for k := range planes {
		list := make([]int, w*h)
		for i := range list {
			list[i] = at(k, i/w, i%w)
		}
		p.Planes = append(p.Planes, list)
	}
	return p
}

// tonesPicture has planes of one tone each.
func tonesPicture(prec, w, h int, tones ...int) impl.Picture {
	return pictureFrom(prec, w, h, len(tones), func(plane, _, _ int) int { return tones[plane] })
}

// drawnPicture has planes of all kinds: any samples, the limits alone, slopes,
// one tone, and few tones that are near to each other.
func drawnPicture(d *dice, prec, w, h, planes int) impl.Picture {
	top := topOf(prec)
	p := impl.Picture{Prec: prec, Width: w, Height: h}
	for range planes {
		kind, base, rise, fall := d.below(5), d.below(top-8), d.below(20), d.below(20)
		one := pictureFrom(prec, w, h, 1, func(_, row, col int) int {
			switch kind {
			case 0:
				return d.below(top + 1)
			case 1:
				return top * d.below(2)
			case 2:
				return (base + rise*row + fall*col) % (top + 1)
			case 3:
				return base
			}
			return base + d.below(9)
		})
		p.Planes = append(p.Planes, one.Planes...)
	}
	return p
}

func drawnOptions(d *dice) impl.Options {
	quality := []int{0, 1, 49, 50, 51, 99, 100, 100, d.below(101), d.below(101)}[d.below(10)]
	restart := []int{0, 0, 1, 2, 7, 255}[d.below(6)]
	return impl.Options{Quality: quality, Mode: d.below(2), Kind: d.below(3), Restart: restart, Colour: d.below(2) == 0, Half: d.below(2) == 0}
}

// anyPicture is a drawn picture that is not too great.
func anyPicture(d *dice) impl.Picture {
	return drawnPicture(d, 8+4*d.below(2), 1+d.below(40), 1+d.below(40), 1+d.below(4))
}

// checkStreamFor holds FrameFor and StreamFor against the chapter's words, and
// answers the stream.
func checkStreamFor(t *testing.T, what string, p impl.Picture, o impl.Options) impl.Stream {
	t.Helper()
	if f := impl.FrameFor(p, o); !sameFrame(f, ruleFrameFor(p, o)) {
		t.Fatalf("%s, %s: FrameFor is %v", what, pictureShown(p, o), f)
	}
	want, got := ruleStreamFor(p, o), impl.StreamFor(p, o)
	if !sameStream(got, want) {
		t.Fatalf("%s, %s: another stream than the chapter's", what, pictureShown(p, o))
	}
	if ok := pictureRule(p) && optionsRule(o); impl.StreamOk(got) != ok || isZeroStream(got) == ok {
		t.Fatalf("%s, %s: a stream that is not ok: %v", what, pictureShown(p, o), got.Frame)
	}
	return got
}

// checkPictureOf holds PictureOf against the chapter's words, and answers the
// picture.
func checkPictureOf(t *testing.T, what string, s impl.Stream) impl.Picture {
	t.Helper()
	want, got := rulePictureOf(s), impl.PictureOf(s)
	if !samePicture(got, want) {
		t.Fatalf("%s, %v: another picture than the chapter's", what, s.Frame)
	}
	if impl.PictureOk(got) != streamRule(s) || isZeroPicture(got) == streamRule(s) {
		t.Fatalf("%s, %v: a picture that is not ok", what, s.Frame)
	}
	return got
}

// checkPicture asks for promise 18 of a picture and options that are ok: what
// comes back from the bytes is what the stream tells, with the picture's size
// and planes. It answers that, and how many bytes there were.
func checkPicture(t *testing.T, what string, p impl.Picture, o impl.Options) (impl.Picture, int) {
	t.Helper()
	s := checkStreamFor(t, what, p, o)
	back := checkPictureOf(t, what, s)
	checkLikeness(t, what, p, back)
	b := impl.Compress(p, o)
	if !bytes.Equal(b, impl.WriteStream(s)) {
		t.Fatalf("%s, %s: %d bytes that are not those of the stream", what, pictureShown(p, o), len(b))
	}
	if len(b) == 0 {
		return back, 0
	}
	x, f := impl.Decompress(b)
	if f != (impl.Fault{}) || !samePicture(x, back) {
		t.Fatalf("%s, %s: another picture came back from %d bytes, fault %v", what, pictureShown(p, o), len(b), f)
	}
	return back, len(b)
}

// checkLikeness asks that a picture came back with its size and planes, all
// samples from 0 to the top.
func checkLikeness(t *testing.T, what string, p, back impl.Picture) {
	t.Helper()
	if back.Prec != p.Prec || back.Width != p.Width || back.Height != p.Height || len(back.Planes) != len(p.Planes) {
		t.Fatalf("%s: of %d bits, %d by %d, %d planes came back", what, back.Prec, back.Width, back.Height, len(back.Planes))
	}
	for _, plane := range back.Planes {
		if len(plane) != p.Width*p.Height || !between(0, topOf(p.Prec), plane...) {
			t.Fatalf("%s: a plane of %d samples, not all of them from 0 to the top", what, len(plane))
		}
	}
}

// checkNear asks that no sample came back further away than that.
func checkNear(t *testing.T, what string, p, back impl.Picture, most int) {
	t.Helper()
	for k, plane := range p.Planes {
		if far := furthest(plane, back.Planes[k]); far > most {
			t.Fatalf("%s, %d by %d: a sample of plane %d came back %d away", what, p.Width, p.Height, k, far)
		}
	}
}

// checkRefusedPicture asks for zero values, or nothing, of a picture or options that
// are not ok.
func checkRefusedPicture(t *testing.T, what string, p impl.Picture, o impl.Options) {
	t.Helper()
	f, s, b := impl.FrameFor(p, o), impl.StreamFor(p, o), impl.Compress(p, o)
	if !isZeroFrame(f) || !isZeroStream(s) || len(b) != 0 {
		t.Fatalf("%s: %v, a stream of %d scans, %d bytes", what, f, len(s.Script), len(b))
	}
}

// checkOk holds PictureOk and OptionsOk against the rule, and asks that the
// others answer just where both hold.
func checkOk(t *testing.T, what string, p impl.Picture, o impl.Options) {
	t.Helper()
	if got := impl.PictureOk(p); got != pictureRule(p) {
		t.Fatalf("%s: PictureOk is %v", what, got)
	}
	if got := impl.OptionsOk(o); got != optionsRule(o) {
		t.Fatalf("%s, %v: OptionsOk is %v", what, o, got)
	}
	if !pictureRule(p) || !optionsRule(o) {
		checkRefusedPicture(t, what, p, o)
		return
	}
	checkStreamFor(t, what, p, o)
}

// Promise 18 of drawn pictures and options.
func TestPicturesThereAndBack(t *testing.T) {
	d := dice(1801)
	written := 0
	for range 500 {
		p, o := anyPicture(&d), drawnOptions(&d)
		if _, n := checkPicture(t, "drawn", p, o); n > 0 {
			written++
		}
	}
	if written < 400 {
		t.Error("the pictures say too little", written)
	}
	// The bytes themselves by the chapters' words alone.
	for range 60 {
		p := drawnPicture(&d, 8+4*d.below(2), 1+d.below(20), 1+d.below(20), 1+d.below(4))
		o := drawnOptions(&d)
		if got := impl.Compress(p, o); !bytes.Equal(got, ruleStream(ruleStreamFor(p, o))) {
			t.Fatalf("%s: %d bytes that are not the chapters'", pictureShown(p, o), len(got))
		}
	}
}

// One sample, by hand: 72 more than half makes a first wave of 576 or 1152.
func TestPicturesByHand(t *testing.T) {
	o := impl.Options{Quality: 50}
	for _, x := range []struct{ prec, tone, quality, level, back int }{
		{8, 200, 50, 72, 200}, {8, 200, 0, 36, 200}, {8, 200, 100, 576, 200}, {8, 128, 50, 0, 128}, {8, 0, 50, -128, 0},
		{8, 255, 50, 127, 255}, {8, 255, 100, 1016, 255}, {8, 0, 100, -1024, 0}, {8, 137, 0, 5, 138}, {8, 119, 0, -5, 118},
		{12, 2120, 50, 72, 2120}, {12, 0, 100, -16380, 1}, {12, 4095, 100, 16373, 4094}, {12, 2048, 0, 0, 2048}, {12, 0, 50, -2048, 0},
	} {
		o.Quality = x.quality
		p := tonesPicture(x.prec, 1, 1, x.tone)
		s := impl.StreamFor(p, o)
		if !sameCoefs(s.Coefs, impl.Coefs{Planes: [][][]int{{with(flat(0), 0, x.level)}}}) {
			t.Errorf("prec %d, tone %d, quality %d: %v", x.prec, x.tone, x.quality, s.Coefs)
		}
		if got := impl.PictureOf(s); !samePicture(got, tonesPicture(x.prec, 1, 1, x.back)) {
			t.Errorf("prec %d, tone %d, quality %d: %v came back", x.prec, x.tone, x.quality, got)
		}
	}
	// The second plane's table has a 10 where the first's has an 8.
	s := impl.StreamFor(tonesPicture(8, 1, 1, 228, 228), impl.Options{Quality: 50})
	if s.Coefs.Planes[0][0][0] != 100 || s.Coefs.Planes[1][0][0] != 80 {
		t.Error(s.Coefs.Planes[0][0][0], s.Coefs.Planes[1][0][0])
	}
	// Three samples become two, which share the one in the middle: 15 and 30,
	// the latter again up to the end of the block.
	p := pictureFrom(8, 3, 1, 3, func(_, _, col int) int { return []int{10, 20, 40}[col] })
	s = impl.StreamFor(p, impl.Options{Quality: 100, Half: true})
	one := impl.Forward(cycled(64, append([]int{15 - 128}, cycled(7, 30-128)...)...))
	if !slices.Equal(s.Coefs.Planes[1][0], one) || !slices.Equal(s.Coefs.Planes[2][0], one) {
		t.Error(s.Coefs.Planes[1][0], one)
	}
	back := impl.PictureOf(s)
	for _, plane := range back.Planes[1:] {
		if furthest(plane, []int{15, 15, 30}) > 2 {
			t.Error(plane)
		}
	}
	// Red, told by brightness: 77, 85 and 255.
	s = impl.StreamFor(tonesPicture(8, 1, 1, 255, 0, 0), impl.Options{Quality: 100, Colour: true})
	if s.Coefs.Planes[0][0][0] != -408 || s.Coefs.Planes[1][0][0] != -344 || s.Coefs.Planes[2][0][0] != 1016 {
		t.Error(s.Coefs.Planes)
	}
	if got := impl.PictureOf(s); !samePicture(got, tonesPicture(8, 1, 1, 255, 0, 1)) {
		t.Error(got)
	}
}

// hardPictures are pictures of 8 bits whose blocks come back furthest from what
// they were, or have samples at the limits alone.
func hardPictures() []impl.Picture {
	var blocks [][]int
	for i := range 64 {
		for _, weights := range [][]int{awayWeights(i/8, i%8), forwardWeights(i/8, i%8)} {
			blocks = append(blocks, moved(bySign(weights, -128, 127), 128), moved(bySign(weights, 127, -128), 128))
		}
	}
	var list []impl.Picture
	for part := range slices.Chunk(blocks, 16) {
		list = append(list, impl.Picture{Prec: 8, Width: 32, Height: 32, Planes: [][]int{impl.JoinBlocks(part, 32, 32)}})
	}
	return list
}

// Promise 18, with Quality 100, without Colour and Half: each sample of 8 bits
// comes back to at most 16.
func TestPicturesOf8BitsComeBackNear(t *testing.T) {
	d := dice(1802)
	for _, p := range hardPictures() {
		back, n := checkPicture(t, "hard", p, impl.Options{Quality: 100, Mode: d.below(2)})
		if n == 0 {
			t.Fatal("hard: nothing was written")
		}
		checkNear(t, "hard", p, back, 16)
	}
	for range 250 {
		p := drawnPicture(&d, 8, 1+d.below(40), 1+d.below(40), 1+d.below(4))
		o := drawnOptions(&d)
		o.Quality, o.Colour, o.Half = 100, false, false
		back, _ := checkPicture(t, "drawn", p, o)
		checkNear(t, "drawn", p, back, 16)
	}
	// Neither of the two is anything to a picture of less than three planes.
	for range 40 {
		p := drawnPicture(&d, 8, 1+d.below(40), 1+d.below(40), 1+d.below(2))
		back, _ := checkPicture(t, "one or two planes", p, impl.Options{Quality: 100, Colour: true, Half: true})
		checkNear(t, "one or two planes", p, back, 16)
	}
}

// Promise 18: a picture whose planes have one tone each comes back to at most 2
// with Quality 100, without Colour, with Half and without.
func TestFlatPicturesComeBackNear(t *testing.T) {
	d := dice(1803)
	for tone := range 256 {
		for _, half := range []bool{false, true} {
			p := tonesPicture(8, 1+d.below(20), 1+d.below(20), []int{tone, 255 - tone, tone / 2, 128}[:1+d.below(4)]...)
			back, n := checkPicture(t, "flat", p, impl.Options{Quality: 100, Half: half, Mode: d.below(2), Kind: d.below(3)})
			if n == 0 {
				t.Fatal("flat: nothing was written")
			}
			checkNear(t, "flat", p, back, 2)
		}
	}
	for range 250 {
		tones := append([]int{0, 4095}, tonesToTry(12)...)
		slices.Reverse(tones[2:])
		p := tonesPicture(12, 1+d.below(20), 1+d.below(20))
		for range 1 + d.below(4) {
			p.Planes = append(p.Planes, cycled(p.Width*p.Height, tones[d.below(len(tones))]))
		}
		for _, half := range []bool{false, true} {
			o := impl.Options{Quality: 100, Half: half, Mode: d.below(2), Kind: d.below(3)}
			back, _ := checkPicture(t, "flat", p, o)
			checkNear(t, "flat", p, back, 2)
			// Colour is nothing to a picture without three planes.
			if o.Colour = true; len(p.Planes) != 3 {
				back, _ = checkPicture(t, "flat", p, o)
				checkNear(t, "flat", p, back, 2)
			}
		}
	}
}

// badPictures are pictures each of which breaks one condition alone, at a limit
// and one past it, and such as just do not.
func badPictures() map[string]impl.Picture {
	d := dice(1804)
	good := drawnPicture(&d, 8, 5, 3, 3)
	m := map[string]impl.Picture{"good": good, "the zero Picture": {}, "no plane": otherwise(good, func(p *impl.Picture) { p.Planes = nil })}
	for _, prec := range append(far(), 0, 1, 7, 8, 9, 10, 11, 12, 13, 16, 1<<32+12, -12) {
		m["prec "+strconv.Itoa(prec)] = otherwise(good, func(p *impl.Picture) { p.Prec = prec })
	}
	for n := range 8 {
		m[strconv.Itoa(n)+" planes"] = drawnPicture(&d, 8, 5, 3, n)
	}
	for k := range 3 {
		at := " of plane " + strconv.Itoa(k)
		for what, n := range map[string]int{"no sample": 0, "one sample": 1, "a sample too few": 14, "all samples": 15, "a sample too many": 16, "a row too few": 10, "twice as many": 30} {
			m[what+at] = otherwise(good, func(p *impl.Picture) { p.Planes[k] = cycled(n, 7) })
		}
		for prec, list := range map[int][]int{8: {-1, 0, 255, 256, 4095}, 12: {-1, 0, 256, 4095, 4096}} {
			for _, n := range append(far(), list...) {
				for _, place := range []int{0, 7, 14} {
					what := strconv.Itoa(n) + " at " + strconv.Itoa(place) + at + ", prec " + strconv.Itoa(prec)
					m[what] = otherwise(good, func(p *impl.Picture) { p.Prec, p.Planes[k][place] = prec, n })
				}
			}
		}
	}
	return m
}

func TestPicturesAreOkOrNot(t *testing.T) {
	taken := 0
	for what, p := range badPictures() {
		checkOk(t, what, p, impl.Options{Quality: 70})
		checkOk(t, what, p, impl.Options{Quality: 101})
		if impl.PictureOk(p) {
			taken++
		}
	}
	if !between(40, 80, taken) {
		t.Error("the pictures say too little", taken)
	}
	for what, want := range map[string]bool{
		"good": true, "prec 7": false, "prec 8": true, "prec 9": false, "prec 11": false, "prec 12": true, "prec 13": false,
		"no plane": false, "0 planes": false, "1 planes": true, "4 planes": true, "5 planes": false,
		"a sample too few of plane 2": false, "a sample too many of plane 2": false, "all samples of plane 2": true,
		"-1 at 14 of plane 2, prec 8": false, "0 at 14 of plane 2, prec 8": true, "255 at 14 of plane 2, prec 8": true, "256 at 14 of plane 2, prec 8": false,
		"-1 at 0 of plane 0, prec 12": false, "256 at 0 of plane 0, prec 12": true, "4095 at 0 of plane 0, prec 12": true, "4096 at 0 of plane 0, prec 12": false,
	} {
		if got := impl.PictureOk(badPictures()[what]); got != want {
			t.Errorf("%s: PictureOk is %v", what, got)
		}
	}
}

// Sides at their limits and past them, and products that do not fit in an int,
// with as many samples as they seem to have.
func TestPictureSides(t *testing.T) {
	o := impl.Options{Quality: 100}
	for what, x := range map[sides]bool{
		{1, 1}: true, {256, 1}: true, {1, 256}: true, {256, 64}: true, {64, 256}: true, {128, 128}: true, {127, 129}: true, {255, 64}: true,
		{0, 1}: false, {1, 0}: false, {0, 0}: false, {257, 1}: false, {1, 257}: false, {257, 63}: false, {-1, 1}: false, {1, -1}: false, {-1, -1}: false,
		{113, 145}: false, {145, 113}: false, {256, 65}: false, {65, 256}: false, {129, 128}: false, {128, 129}: false, {256, 256}: false, {16384, 1}: false, {1, 16384}: false,
	} {
		for n := 1; n <= 4; n += 3 {
			p := tonesPicture(8, what.w, what.h)
			p.Planes = slices.Repeat([][]int{make([]int, countOf(what))}, n)
			if impl.PictureOk(p) != x {
				t.Errorf("%v: PictureOk is %v", what, !x)
			}
			checkOk(t, "sides", p, o)
		}
	}
	for _, s := range noSides() {
		for _, n := range []int{0, 1, 64, countOf(s)} {
			p := impl.Picture{Prec: 8, Width: s.w, Height: s.h, Planes: [][]int{make([]int, n)}}
			if impl.PictureOk(p) {
				t.Errorf("%v: PictureOk is true", s)
			}
			checkRefusedPicture(t, "sides", p, o)
		}
	}
	for _, n := range far() {
		for _, s := range []sides{{n, 1}, {1, n}, {n, n}, {n, 0}, {0, n}} {
			checkOk(t, "far sides", impl.Picture{Prec: 8, Width: s.w, Height: s.h, Planes: [][]int{make([]int, 1)}}, o)
		}
	}
}

// optionFields finds each number of options.
func optionFields() map[string]func(o *impl.Options) *int {
	return map[string]func(o *impl.Options) *int{
		"Quality": func(o *impl.Options) *int { return &o.Quality },
		"Mode":    func(o *impl.Options) *int { return &o.Mode },
		"Kind":    func(o *impl.Options) *int { return &o.Kind },
		"Restart": func(o *impl.Options) *int { return &o.Restart },
	}
}

func TestOptionsAreOkOrNot(t *testing.T) {
	p := tonesPicture(8, 3, 2, 9, 8, 7)
	tops := map[string]int{"Quality": 100, "Mode": 1, "Kind": 2, "Restart": 255}
	for what, field := range optionFields() {
		for _, flags := range [][2]bool{{false, false}, {true, false}, {false, true}, {true, true}} {
			o := impl.Options{Colour: flags[0], Half: flags[1]}
			for n := -3; n <= 300; n++ {
				*field(&o) = n
				if impl.OptionsOk(o) != (n >= 0 && n <= tops[what]) {
					t.Errorf("%s %d: OptionsOk is %v", what, n, impl.OptionsOk(o))
				}
				checkOk(t, what+" "+strconv.Itoa(n), p, o)
			}
			for _, n := range append(far(), -2, -255, 101, 256, 1<<32+100, 1<<40) {
				*field(&o) = n
				checkOk(t, what+" "+strconv.Itoa(n), p, o)
			}
		}
	}
	if !impl.OptionsOk(impl.Options{}) || !impl.OptionsOk(impl.Options{Quality: 100, Mode: 1, Kind: 2, Restart: 255, Colour: true, Half: true}) {
		t.Error("the least or the greatest options are refused")
	}
}

// Frames by hand: with one, two, three and four planes, each with and without
// Colour and Half.
func TestFrameFor(t *testing.T) {
	first, wide := impl.Comp{Id: 1, H: 1, V: 1}, impl.Comp{Id: 1, H: 2, V: 2}
	second, third, fourth := impl.Comp{Id: 2, H: 1, V: 1, Q: 1}, impl.Comp{Id: 3, H: 1, V: 1, Q: 1}, impl.Comp{Id: 4, H: 1, V: 1, Q: 1}
	bright, wideBright := impl.Comp{Id: 11, H: 1, V: 1}, impl.Comp{Id: 11, H: 2, V: 2}
	blue, red := impl.Comp{Id: 12, H: 1, V: 1, Q: 1}, impl.Comp{Id: 13, H: 1, V: 1, Q: 1}
	for planes, rows := range map[int][4][]impl.Comp{
		1: {{first}, {first}, {first}, {first}},
		2: {{first, second}, {first, second}, {first, second}, {first, second}},
		3: {{first, second, third}, {bright, blue, red}, {wide, second, third}, {wideBright, blue, red}},
		4: {{first, second, third, fourth}, {first, second, third, fourth}, {wide, second, third, fourth}, {wide, second, third, fourth}},
	} {
		for i, comps := range rows {
			for _, prec := range []int{8, 12} {
				p := tonesPicture(prec, 9, 5, []int{1, 2, 3, 4}[:planes]...)
				o := impl.Options{Quality: 3, Restart: 10 * i, Mode: i % 2, Kind: i % 3, Colour: i%2 == 1, Half: i/2 == 1}
				want := impl.Frame{Prec: prec, Width: 9, Height: 5, Restart: 10 * i, Comps: comps}
				if got := impl.FrameFor(p, o); !sameFrame(got, want) || !impl.FrameOk(got) {
					t.Errorf("%d planes, colour %v, half %v: %v", planes, o.Colour, o.Half, got)
				}
				if got := impl.StreamFor(p, o).Frame; !sameFrame(got, want) {
					t.Errorf("%d planes, colour %v, half %v: a stream of %v", planes, o.Colour, o.Half, got)
				}
			}
		}
	}
}

// What a stream has beside its coefficients, by hand.
func TestStreamsForPictures(t *testing.T) {
	p := tonesPicture(8, 9, 5, 1, 2, 3)
	for quality, steps := range map[int][4][3]int{
		0: {{16, 22, 100}, {20, 32, 188}, {16, 16, 16}, {2, 2, 2}}, 50: {{8, 11, 50}, {10, 16, 94}, {8, 8, 8}, {1, 1, 1}},
		75: {{4, 6, 25}, {5, 8, 47}, {4, 4, 4}, {1, 1, 1}}, 100: {{1, 1, 1}, {1, 1, 1}, {1, 1, 1}, {1, 1, 1}},
	} {
		for kind, scans := range []int{1, 3, 14} {
			for mode := range 2 {
				s := impl.StreamFor(p, impl.Options{Quality: quality, Kind: kind, Mode: mode, Restart: 4})
				if len(s.Tables) != 4 || s.Mode != mode || len(s.Script) != scans || len(s.Note) != 0 || s.Frame.Restart != 4 {
					t.Fatal(len(s.Tables), s.Mode, len(s.Script), s.Note, s.Frame)
				}
				if !sameScript(s.Script, ruleScriptFor(s.Frame, kind)) {
					t.Errorf("kind %d: %v", kind, s.Script)
				}
				for k, q := range s.Tables {
					if got := [3]int{q[0], q[1], q[63]}; got != steps[k] || !slices.Equal(q, impl.Scale(impl.Plain(k), quality)) {
						t.Errorf("quality %d, table %d: %v", quality, k, got)
					}
				}
			}
		}
	}
	for quality := range 101 {
		checkStreamFor(t, "each quality", p, impl.Options{Quality: quality})
	}
}

// All sides up to three blocks, with Half and without: odd and even, with
// hidden blocks and without.
func TestStreamsForAllSides(t *testing.T) {
	d := dice(1805)
	for w := 1; w <= 26; w++ {
		for h := 1; h <= 26; h++ {
			for planes := 1; planes <= 4; planes++ {
				o := drawnOptions(&d)
				o.Half = o.Half || planes > 2 && d.below(3) > 0
				s := checkStreamFor(t, "sides", drawnPicture(&d, 8+4*d.below(2), w, h, planes), o)
				checkPictureOf(t, "sides", s)
			}
		}
	}
	for _, s := range []sides{{256, 1}, {1, 256}, {255, 1}, {1, 255}, {255, 3}, {2, 251}, {256, 64}, {64, 256}, {128, 128}, {129, 127}, {241, 67}} {
		for planes := 3; planes <= 4; planes++ {
			for _, half := range []bool{true, false} {
				p := drawnPicture(&d, 8+4*d.below(2), s.w, s.h, planes)
				checkPictureOf(t, "great", checkStreamFor(t, "great", p, impl.Options{Quality: 90, Colour: planes == 3, Half: half}))
			}
		}
	}
}

// Blocks that no sample needs stay noughts, whatever lies at the plane's edge:
// with Half the first plane has such where a side is 1 to 8 samples beyond
// whole units.
func TestHiddenBlocksOfPictures(t *testing.T) {
	for _, tone := range []int{0, 255} {
		for planes := 3; planes <= 4; planes++ {
			for w := 1; w <= 40; w++ {
				for _, h := range []int{1, 8, 9, 16, 17, 24, 25, 40} {
					s := impl.StreamFor(tonesPicture(8, w, h, cycled(planes, tone)...), impl.Options{Quality: 50, Half: true, Colour: w%2 == 0})
					hidden := 0
					for _, x := range allPlaces(s.Frame) {
						block := *blockIn(s.Frame, s.Coefs, x)
						if isNeeded(s.Frame, x) == slices.Equal(block, flat(0)) && !(isColoured(s.Frame) && x.Comp > 0) {
							t.Fatalf("tone %d, %d by %d: %v at %v", tone, w, h, block, x)
						}
						if !isNeeded(s.Frame, x) {
							hidden++
						}
					}
					wide, high := leastTimes(w, 8), leastTimes(h, 8)
					if want := (wide+wide%2)*(high+high%2) - wide*high; hidden != want {
						t.Fatalf("%d by %d: %d blocks are hidden, and not %d", w, h, hidden, want)
					}
				}
			}
		}
	}
}

// The order of what is done shows: pictures for which another order would make
// another stream or another picture.
func TestOrderOfWhatIsDone(t *testing.T) {
	d := dice(1806)
	others := map[string]int{}
	for range 60 {
		w, h := 1+d.below(30), 1+d.below(30)
		p := pictureFrom(8, w, h, 3, func(_, _, _ int) int { return 255 * d.below(2) })
		o := impl.Options{Quality: 100, Colour: true, Half: true}
		s := checkStreamFor(t, "order", p, o)
		// ToYcc behind Shrink.
		nw, nh := leastTimes(w, 2), leastTimes(h, 2)
		smaller := eachPixel([][]int{impl.Shrink(p.Planes[0], w, h, nw, nh), impl.Shrink(p.Planes[1], w, h, nw, nh), impl.Shrink(p.Planes[2], w, h, nw, nh)}, func(px []int) []int { return impl.ToYcc(8, px) })
		f := frameWith(impl.Comp{Id: 1, H: 1, V: 1})
		f.Width, f.Height = nw, nh
		if !sameBlocks(ruleWaves(f, 0, smaller[1], s.Tables[1]), s.Coefs.Planes[1]) {
			others["ToYcc behind Shrink"]++
		}
		// Pad ahead of Shrink.
		great := impl.Pad(inYcc(p)[1], w, h, 16*leastTimes(w, 16), 16*leastTimes(h, 16))
		f.Width, f.Height = 8*leastTimes(w, 16), 8*leastTimes(h, 16)
		if !sameBlocks(ruleWaves(f, 0, impl.Shrink(great, 2*f.Width, 2*f.Height, f.Width, f.Height), s.Tables[1]), s.Coefs.Planes[1]) {
			others["Pad ahead of Shrink"]++
		}
	}
	for _, what := range []string{"ToYcc behind Shrink", "Pad ahead of Shrink"} {
		if others[what] < 10 {
			t.Errorf("%s: the pictures say too little: %v", what, others)
		}
	}
}

// grownFirst is a component's plane where it is made greater ahead of being
// cut.
func grownFirst(s impl.Stream, comp int) []int {
	f := s.Frame
	wide, high := impl.BlocksOf(f, comp)
	h, v := greatestShares(f)
	right, down := 8*wide*h/f.Comps[comp].H, 8*high*v/f.Comps[comp].V
	// A frame of its own, of which the blocks are all of one plane.
	whole := sized(8*wide, 8*high)
	whole.Prec, whole.Comps = f.Prec, []impl.Comp{{H: 1, V: 1}}
	great, _ := ruleSamples(whole, 0, s.Coefs.Planes[comp], s.Tables[f.Comps[comp].Q])
	return impl.Crop(impl.Grow(great, 8*wide, 8*high, right, down), right, down, f.Width, f.Height)
}

// inYcc are a picture's planes by brightness and colour.
func inYcc(p impl.Picture) [][]int {
	return eachPixel(p.Planes, func(px []int) []int { return impl.ToYcc(p.Prec, px) })
}

// Streams that no picture is told by: all H and V that a frame may have, other
// tables, coefficients that go beyond samples, other Ids.
func TestPicturesOfOtherStreams(t *testing.T) {
	d := dice(1807)
	brought, hidden, coloured, cutFirst := [2]int{}, 0, 0, 0
	shares := allShares()
	for range 700 {
		s := drawnStream(&d, shares[d.below(len(shares))], d.below(2), d.below(4), d.below(3), d.below(3))
		for i := range s.Frame.Comps {
			s.Frame.Comps[i].Q = d.below(4)
		}
		if d.below(2) == 0 {
			s.Frame.Comps[0].Id = 11
		}
		p := checkPictureOf(t, "drawn", s)
		if isColoured(s.Frame) {
			coloured++
		}
		h, v := greatestShares(s.Frame)
		for comp, c := range s.Frame.Comps {
			_, n := ruleSamples(s.Frame, comp, s.Coefs.Planes[comp], s.Tables[c.Q])
			brought[0], brought[1] = brought[0]+n[0], brought[1]+n[1]
			if c.H < h && c.V < v && !isNeeded(s.Frame, lastPlace(s.Frame, comp)) {
				hidden++
			}
			if !isColoured(s.Frame) && !slices.Equal(p.Planes[comp], grownFirst(s, comp)) {
				cutFirst++
			}
		}
	}
	if min(brought[0], brought[1]) < 10000 || min(hidden, coloured, cutFirst) < 20 {
		t.Error("the streams say too little", brought, hidden, coloured, cutFirst)
	}
}

// lastPlace is that of a component's last block.
func lastPlace(f impl.Frame, comp int) impl.Place {
	wide, high := ruleBlocks(f, comp)
	return impl.Place{Comp: comp, Row: high - 1, Col: wide - 1}
}

// What a number of a hidden block could do: the blocks beside it, in a plane
// that is made greater, are told as they are.
func TestHiddenBlocksOfSmallerPlanes(t *testing.T) {
	d := dice(1808)
	// A unit is 24 by 24; of the third plane's 2 by 2 blocks in it one is needed,
	// or two beside or below one another, or all.
	for _, x := range []sides{{9, 9}, {12, 12}, {13, 12}, {12, 13}, {13, 13}, {1, 24}, {24, 1}, {33, 36}, {37, 33}} {
		f := shared(x.w, x.h, [2]int{1, 3}, [2]int{3, 1}, [2]int{2, 2})
		for _, id := range []int{10, 11} {
			f.Comps[0].Id = id
			s := plainStream(f, 1)
			s.Coefs = sparseCoefs(&d, f, 20, 200)
			checkPictureOf(t, "hidden", s)
		}
	}
	// One sample of 3 by 3: all else of the block and of the hidden ones is cut.
	f := shared(1, 1, [2]int{1, 1}, [2]int{3, 3})
	s := plainStream(f, 0)
	s.Coefs.Planes[0][0][0], s.Coefs.Planes[1][0][0] = 50, -30
	p := checkPictureOf(t, "one sample", s)
	if !sameBlocks(p.Planes, [][]int{{178}, {91}}) {
		t.Error(p.Planes)
	}
}

// FromYcc comes where the first of three components has Id 11, whatever the
// others have, and nowhere else.
func TestPicturesAreTurnedByIds(t *testing.T) {
	d := dice(1809)
	for _, x := range []struct {
		ids  []int
		turn bool
	}{
		{[]int{11, 12, 13}, true}, {[]int{11, 1, 2}, true}, {[]int{11, 0, 255}, true}, {[]int{11, 13, 12}, true},
		{[]int{1, 2, 3}, false}, {[]int{10, 11, 12}, false}, {[]int{12, 11, 13}, false}, {[]int{13, 12, 11}, false}, {[]int{0, 11, 12}, false}, {[]int{12, 13, 14}, false},
		{[]int{11}, false}, {[]int{11, 12}, false}, {[]int{11, 12, 13, 14}, false}, {[]int{1, 11, 12, 13}, false}, {[]int{14, 11, 12, 13}, false},
	} {
		for _, prec := range []int{8, 12} {
			f := sized(19, 11)
			f.Prec, f.Comps = prec, nil
			for i, id := range x.ids {
				f.Comps = append(f.Comps, impl.Comp{Id: id, H: 1, V: 1 + i%2, Q: i})
			}
			s := plainStream(f, 0)
			s.Coefs = sparseCoefs(&d, f, 10, 60)
			got := checkPictureOf(t, "ids", s)
			if isColoured(f) != x.turn {
				t.Fatal(x.ids)
			}
			for i := range s.Frame.Comps {
				s.Frame.Comps[i].Id = 100 + i
			}
			bare := checkPictureOf(t, "other ids", s)
			if samePicture(got, bare) == x.turn {
				t.Errorf("%v, prec %d: turned is not %v", x.ids, prec, x.turn)
			}
			if x.turn && !sameBlocks(got.Planes, eachPixel(bare.Planes, func(px []int) []int { return impl.FromYcc(prec, px) })) {
				t.Errorf("%v, prec %d: another picture than FromYcc makes", x.ids, prec)
			}
		}
	}
}

// Coefficients at their limits, and tables at theirs: what is told is brought
// into 0 .. 2^Prec - 1.
func TestPicturesOfGreatCoefs(t *testing.T) {
	for _, prec := range []int{8, 12} {
		for _, level := range []int{impl.MaxLevel, -impl.MaxLevel} {
			for place := range 64 {
				for _, step := range []int{1, 2, 3, impl.MaxStep} {
					f := sized(8, 8)
					f.Prec = prec
					s := plainStream(f, 0)
					s.Tables[0] = flat(step)
					s.Coefs.Planes[0][0][place] = level
					p := checkPictureOf(t, "great", s)
					// Less than that does not come to the limits of 12 bits.
					if place == 0 && (prec == 8 || step > 1) && !slices.Equal(p.Planes[0], flat(broughtBack(prec, level))) {
						t.Error(prec, level, step, p.Planes[0][0])
					}
				}
			}
		}
	}
}

// brokenStreams are streams that are not StreamOk.
func brokenStreams() map[string]impl.Stream {
	d := dice(1810)
	s := impl.StreamFor(drawnPicture(&d, 8, 20, 9, 3), impl.Options{Quality: 60, Half: true, Colour: true})
	m := map[string]impl.Stream{
		"the zero Stream":     {},
		"three tables":        altered(s, func(s *impl.Stream) { s.Tables = s.Tables[:3] }),
		"five tables":         altered(s, func(s *impl.Stream) { s.Tables = append(s.Tables, flat(1)) }),
		"a table with 0":      altered(s, func(s *impl.Stream) { s.Tables[3][63] = 0 }),
		"a step past MaxStep": altered(s, func(s *impl.Stream) { s.Tables[0][0] = impl.MaxStep + 1 }),
		"a short table":       altered(s, func(s *impl.Stream) { s.Tables[1] = s.Tables[1][:63] }),
		"mode 2":              altered(s, func(s *impl.Stream) { s.Mode = 2 }),
		"mode -1":             altered(s, func(s *impl.Stream) { s.Mode = -1 }),
		"no script":           altered(s, func(s *impl.Stream) { s.Script = nil }),
		"a script that leaves a bit": altered(s, func(s *impl.Stream) {
			s.Script[0].Low = 1
		}),
		"a note too long":        altered(s, func(s *impl.Stream) { s.Note = make([]byte, 1001) }),
		"no coefficients":        altered(s, func(s *impl.Stream) { s.Coefs = impl.Coefs{} }),
		"a plane too few":        altered(s, func(s *impl.Stream) { s.Coefs.Planes = s.Coefs.Planes[:2] }),
		"a block too few":        altered(s, func(s *impl.Stream) { s.Coefs.Planes[1] = s.Coefs.Planes[1][:1] }),
		"a level past MaxLevel":  altered(s, func(s *impl.Stream) { s.Coefs.Planes[2][1][63] = impl.MaxLevel + 1 }),
		"a hidden block":         altered(s, func(s *impl.Stream) { s.Coefs.Planes[0][7][63] = 1 }),
		"Q past the last table":  altered(s, func(s *impl.Stream) { s.Frame.Comps[2].Q = 4 }),
		"Q below 0":              altered(s, func(s *impl.Stream) { s.Frame.Comps[2].Q = -1 }),
		"two Ids alike":          altered(s, func(s *impl.Stream) { s.Frame.Comps[2].Id = 11 }),
		"another Prec":           altered(s, func(s *impl.Stream) { s.Frame.Prec = 9 }),
		"other sides":            altered(s, func(s *impl.Stream) { s.Frame.Width = 33 }),
		"no frame":               altered(s, func(s *impl.Stream) { s.Frame = impl.Frame{} }),
		"a frame without planes": altered(s, func(s *impl.Stream) { s.Frame.Comps = nil }),
	}
	for what, f := range wrongFrames() {
		m["frame: "+what] = altered(s, func(s *impl.Stream) { s.Frame = f })
	}
	return m
}

func TestPictureOfNoStream(t *testing.T) {
	for what, s := range brokenStreams() {
		if streamRule(s) {
			t.Fatalf("%s: not even broken", what)
		}
		if p := impl.PictureOf(s); !isZeroPicture(p) {
			t.Errorf("%s: %d by %d, %d planes", what, p.Width, p.Height, len(p.Planes))
		}
	}
}

// checkDecompress holds Decompress of any bytes against ReadStream and
// PictureOf, and answers the fault's code.
func checkDecompress(t *testing.T, what string, b []byte) int {
	t.Helper()
	s, want := ruleReadStream(b)
	p, f := impl.Decompress(b)
	if f != want {
		t.Fatalf("%s: fault %v, and not %v", what, f, want)
	}
	if f.Code != 0 && !isZeroPicture(p) {
		t.Fatalf("%s: a picture beside the fault %v", what, f)
	}
	if f.Code == 0 && !samePicture(p, rulePictureOf(s)) {
		t.Fatalf("%s: another picture than the stream's", what)
	}
	return f.Code
}

// Bytes that are no stream: the fault of ReadStream, and the zero Picture.
func TestDecompressOfOtherBytes(t *testing.T) {
	d := dice(1811)
	met := map[int]int{}
	for what, b := range map[string][]byte{"nil": nil, "empty": {}, "T": {84}, "TS": {84, 83}, "no segment": stream(), "too many": make([]byte, 60001)} {
		code := checkDecompress(t, what, b)
		if code == 0 {
			t.Errorf("%s: no fault", what)
		}
		met[code]++
	}
	for range 60 {
		p := drawnPicture(&d, 8+4*d.below(2), 1+d.below(20), 1+d.below(20), 1+d.below(4))
		b := impl.Compress(p, drawnOptions(&d))
		if len(b) == 0 {
			continue
		}
		for range 12 {
			met[checkDecompress(t, "turned", turnedBytes(&d, b))]++
			met[checkDecompress(t, "cut short", b[:d.below(len(b))])]++
			met[checkDecompress(t, "drawn", bytesThrown(&d, d.below(60)))]++
		}
		met[checkDecompress(t, "more behind", slices.Concat(b, []byte{1}))]++
	}
	for mode := range 2 {
		s := parted(mode)
		met[checkDecompress(t, "with a note", impl.WriteStream(s))]++
		for _, x := range flawsOf(s) {
			if code := checkDecompress(t, x.what, segsText(x.put(streamParts(s)))); code != x.code {
				t.Errorf("%s: fault %d", x.what, code)
			}
			met[x.code]++
		}
	}
	for _, code := range []int{impl.OK, impl.SgBytes, impl.SgBegin, impl.SgEnd, impl.SgMark, impl.SgRest, impl.StFrame, impl.StTable, impl.StNote, impl.StScan, impl.StLeft} {
		if met[code] == 0 {
			t.Error("no bytes have the fault", code, met)
		}
	}
}

// Streams that no Compress writes are decompressed too: with a note, another
// script, other tables.
func TestDecompressOfOtherStreams(t *testing.T) {
	d := dice(1812)
	for range 150 {
		s := anyStream(&d, d.below(5))
		if d.below(2) == 0 {
			s.Frame.Comps[0].Id = 11
		}
		p, f := impl.Decompress(impl.WriteStream(s))
		if f != (impl.Fault{}) || !samePicture(p, rulePictureOf(s)) {
			t.Fatalf("%v: another picture than the stream's, fault %v", s.Frame, f)
		}
	}
}

// checkNotWritten asks that a picture and options that are ok have a stream of
// which nothing is written.
func checkNotWritten(t *testing.T, what string, p impl.Picture, o impl.Options) {
	t.Helper()
	if _, n := checkPicture(t, what, p, o); n != 0 {
		t.Fatalf("%s, %s: %d bytes were written", what, pictureShown(p, o), n)
	}
}

func TestCompressOfTooMuch(t *testing.T) {
	d := dice(1813)
	noise := pictureFrom(12, 128, 128, 4, func(_, _, _ int) int { return d.below(4096) })
	for mode := range 2 {
		for kind := range 3 {
			checkNotWritten(t, "noise", noise, impl.Options{Quality: 100, Mode: mode, Kind: kind})
		}
	}
	// 147 units have 294 segments in one scan and there are five ahead of them:
	// no frame has 148 to 151, and 150 would be too many.
	for units, s := range map[int]sides{147: {56, 168}, 150: {80, 120}} {
		p := tonesPicture(8, s.w, s.h, 200)
		o := impl.Options{Quality: 50, Restart: 1}
		if units == 150 {
			checkNotWritten(t, "many units", p, o)
		} else if _, n := checkPicture(t, "units", p, o); n == 0 {
			t.Errorf("%d units: nothing was written", units)
		}
		if o.Restart = 2; len(impl.Compress(p, o)) == 0 {
			t.Errorf("%d units, Restart 2: nothing was written", units)
		}
	}
	// The greatest that there are, of little.
	for _, s := range []sides{{256, 64}, {64, 256}, {128, 128}} {
		p := tonesPicture(12, s.w, s.h, 4095, 0, 4095, 2048)
		if _, n := checkPicture(t, "great and flat", p, impl.Options{Quality: 100, Mode: 1, Half: true}); n == 0 {
			t.Errorf("%v: nothing was written", s)
		}
	}
}

// wildPicture is a picture that may be none, and options likewise.
func wildPicture(d *dice) (impl.Picture, impl.Options) {
	p, o := drawnPicture(d, 8+4*d.below(2), 1+d.below(12), 1+d.below(12), 1+d.below(4)), drawnOptions(d)
	strange := append(far(), 0, 1, 2, 7, 8, 12, 100, 101, 255, 256)
	n := strange[d.below(len(strange))]
	switch d.below(12) {
	case 0:
		p.Prec = n
	case 1:
		p.Width = n
	case 2:
		p.Height = n
	case 3:
		p.Width, p.Height = n, strange[d.below(len(strange))]
	case 4:
		p.Planes = append(p.Planes, p.Planes...)[d.below(3):]
	case 5:
		p.Planes[d.below(len(p.Planes))] = [][]int{nil, {}, {n}, flat(n)}[d.below(4)]
	case 6:
		plane := p.Planes[d.below(len(p.Planes))]
		plane[d.below(len(plane))] = n
	case 7:
		o.Quality = n
	case 8:
		o.Mode = n
	case 9:
		o.Kind, o.Restart = d.below(4), n
	}
	return p, o
}

// None of the functions panics, and all answer by the rule.
func TestPicturesOfAnyArgument(t *testing.T) {
	d := dice(1814)
	taken := 0
	for range 2500 {
		p, o := wildPicture(&d)
		checkOk(t, "wild", p, o)
		if s := impl.StreamFor(p, o); !isZeroStream(s) {
			taken++
			checkPictureOf(t, "wild", s)
		}
	}
	if !between(500, 2000, taken) {
		t.Error("the pictures say too little", taken)
	}
	for range 400 {
		s := cloneStream(anyStream(&d, d.below(2)))
		for range d.below(4) {
			wilder(&d)(&s)
		}
		checkPictureOf(t, "wild", s)
	}
}

// roomyPicture is a picture in new memory with room behind each list, and a
// check that all of it is as it was.
func roomyPicture(p impl.Picture) (impl.Picture, func(t *testing.T, what string)) {
	lists := roomy(impl.Coefs{Planes: [][][]int{p.Planes}})
	p.Planes = lists.Planes[0]
	was, at := opened(lists)
	return p, func(t *testing.T, what string) {
		t.Helper()
		if now, then := opened(lists); !sameCoefs(now, was) || !slices.Equal(at, then) {
			t.Fatalf("%s: a picture, or the room behind its lists, was written into", what)
		}
	}
}

// checkPictureLeft calls all functions of a picture with room behind each list,
// and asks that all stays as it was and that they answer as without it.
func checkPictureLeft(t *testing.T, what string, p impl.Picture, o impl.Options) {
	t.Helper()
	own, check := roomyPicture(p)
	checkOk(t, what, own, o)
	check(t, what)
	b := impl.Compress(own, o)
	check(t, what)
	if !bytes.Equal(b, impl.WriteStream(ruleStreamFor(p, o))) {
		t.Fatalf("%s: another answer with other room behind the lists", what)
	}
}

func TestPicturesLeaveArguments(t *testing.T) {
	d := dice(1815)
	for range 60 {
		p, o := drawnPicture(&d, 8+4*d.below(2), 1+d.below(20), 1+d.below(20), 1+d.below(4)), drawnOptions(&d)
		checkPictureLeft(t, "ok", p, o)
		checkPictureLeft(t, "a sample too few", otherwise(p, func(p *impl.Picture) { p.Planes[0] = p.Planes[0][1:] }), o)
		checkPictureLeft(t, "no plane", otherwise(p, func(p *impl.Picture) { p.Planes = p.Planes[:0] }), o)
		checkPictureLeft(t, "quality 101", p, impl.Options{Quality: 101})
		s := impl.StreamFor(p, o)
		for _, x := range []impl.Stream{s, altered(s, func(s *impl.Stream) { s.Tables = s.Tables[:3] }), altered(s, func(s *impl.Stream) { s.Coefs.Planes = s.Coefs.Planes[1:] })} {
			own, check := roomyStream(x)
			checkPictureOf(t, "room behind", own)
			check(t, "PictureOf")
		}
		b := impl.WriteStream(s)
		for n := range 3 {
			g := guard(b[:max(0, len(b)-n)], 255, 254)
			checkDecompress(t, "room behind", g.list)
			g.check(t, "Decompress")
		}
	}
}

// Each answer is asked for twice, one of them and the argument written over.
func TestPicturesAreNewMemory(t *testing.T) {
	d := dice(1816)
	for range 120 {
		p, o := drawnPicture(&d, 8+4*d.below(2), 1+d.below(20), 1+d.below(20), 1+d.below(4)), drawnOptions(&d)
		own, want, frame := clonePicture(p), ruleStreamFor(p, o), ruleFrameFor(p, o)
		f, g := impl.FrameFor(own, o), impl.FrameFor(own, o)
		scribble(f.Comps, impl.Comp{Id: 77})
		a, s := impl.StreamFor(own, o), impl.StreamFor(own, o)
		if !ownLists(a) {
			t.Fatal("two lists of one stream share memory")
		}
		b, text := impl.Compress(own, o), impl.Compress(own, o)
		scribble(b, 99)
		if !samePicture(own, p) {
			t.Fatal("an answer shares memory with the picture")
		}
		scribble(own.Planes[len(own.Planes)-1], 9)
		scribble(own.Planes, []int{9})
		if !sameFrame(g, frame) || !sameStream(s, want) || !bytes.Equal(text, impl.WriteStream(want)) {
			t.Fatal("an answer shares memory with the picture or with another one")
		}
		told := rulePictureOf(want)
		x, y := impl.PictureOf(s), impl.PictureOf(s)
		checkOwnPlanes(t, "PictureOf", x)
		if !sameStream(s, want) {
			t.Fatal("the picture shares memory with the stream")
		}
		ownLists(s)
		if !samePicture(y, told) {
			t.Fatal("the picture shares memory with the stream or with another one")
		}
		if len(text) == 0 {
			continue
		}
		x, _ = impl.Decompress(text)
		y, _ = impl.Decompress(text)
		checkOwnPlanes(t, "Decompress", x)
		scribble(text, 98)
		if !samePicture(y, told) {
			t.Fatal("what came back shares memory with the bytes or with another one")
		}
	}
}

// checkOwnPlanes writes over a picture, and asks that no two planes share
// memory.
func checkOwnPlanes(t *testing.T, what string, p impl.Picture) {
	t.Helper()
	if !writeOverLists(p.Planes) {
		t.Fatalf("%s: two planes share memory", what)
	}
	scribble(p.Planes, []int{1})
}

// A picture's planes may be the same list: they are only read, and those that
// come back are not the same.
func TestPicturesOfSharedPlanes(t *testing.T) {
	d := dice(1817)
	for planes := 1; planes <= 4; planes++ {
		one := thrown(&d, 20*12, 0, 255)
		p := impl.Picture{Prec: 8, Width: 20, Height: 12, Planes: slices.Repeat([][]int{one}, planes)}
		for range 8 {
			was := slices.Clone(one)
			checkPicture(t, "shared", p, drawnOptions(&d))
			if !slices.Equal(one, was) {
				t.Fatal("a plane was written into")
			}
		}
		// Greys have one brightness, and neither blue nor red.
		back := impl.PictureOf(impl.StreamFor(p, impl.Options{Quality: 100, Colour: true}))
		checkNear(t, "grey", p, back, 16)
		checkOwnPlanes(t, "grey", back)
	}
}

// pictureAsked is a picture with options, and what was answered.
type pictureAsked struct {
	p    impl.Picture
	o    impl.Options
	f    impl.Frame
	s    impl.Stream
	b    []byte
	back impl.Picture
}

// same tells whether all functions answer as before.
func (a pictureAsked) same() bool {
	if impl.PictureOk(a.p) != pictureRule(a.p) || impl.OptionsOk(a.o) != optionsRule(a.o) {
		return false
	}
	if !sameFrame(impl.FrameFor(a.p, a.o), a.f) || !sameStream(impl.StreamFor(a.p, a.o), a.s) {
		return false
	}
	if !bytes.Equal(impl.Compress(a.p, a.o), a.b) || !samePicture(impl.PictureOf(a.s), a.back) {
		return false
	}
	x, f := impl.Decompress(a.b)
	if len(a.b) == 0 {
		return f.Code == impl.SgBegin && isZeroPicture(x)
	}
	return f == (impl.Fault{}) && samePicture(x, a.back)
}

// picturesAsked are pictures of which some are refused.
func picturesAsked(d *dice) []pictureAsked {
	var list []pictureAsked
	for i := range 24 {
		a := pictureAsked{p: drawnPicture(d, 8+4*d.below(2), 1+d.below(30), 1+d.below(30), 1+i%4), o: drawnOptions(d)}
		if i%5 == 4 {
			a.p, a.o = wildPicture(d)
		}
		a.f, a.s = ruleFrameFor(a.p, a.o), ruleStreamFor(a.p, a.o)
		a.b, a.back = ruleStream(a.s), rulePictureOf(a.s)
		list = append(list, a)
	}
	return list
}

// The same arguments give the same answers, whatever was asked for between,
// however the goroutines inside run, on one thread and on many, and asked from
// many goroutines at once.
func TestPicturesAtOnce(t *testing.T) {
	d := dice(1818)
	list := picturesAsked(&d)
	was := runtime.GOMAXPROCS(0)
	defer runtime.GOMAXPROCS(was)
	for _, threads := range []int{1, 2, was, 4 * was} {
		runtime.GOMAXPROCS(threads)
		for range 2 {
			slices.Reverse(list)
			for _, a := range list {
				if !a.same() {
					t.Fatalf("%d threads: other answers: %s", threads, pictureShown(a.p, a.o))
				}
			}
		}
	}
	var all sync.WaitGroup
	for range 8 {
		all.Add(1)
		go func() {
			defer all.Done()
			for _, a := range list {
				if !a.same() {
					t.Errorf("at once: other answers: %s", pictureShown(a.p, a.o))
				}
			}
		}()
	}
	all.Wait()
}

// No goroutine is left behind, and none touches an answer any more that was
// given: it may be written over at once.
func TestPicturesWrittenOverAtOnce(t *testing.T) {
	d := dice(1819)
	was := runtime.NumGoroutine()
	for range 200 {
		p, o := anyPicture(&d), drawnOptions(&d)
		s := impl.StreamFor(p, o)
		want := cloneStream(s)
		x := impl.PictureOf(s)
		told := clonePicture(x)
		if !ownLists(s) || !writeOverLists(x.Planes) {
			t.Fatal("an answer was written into while it was written over")
		}
		if !sameStream(want, ruleStreamFor(p, o)) || !samePicture(told, rulePictureOf(want)) {
			t.Fatal(pictureShown(p, o))
		}
	}
	for range 200 {
		if runtime.NumGoroutine() <= was {
			return
		}
		time.Sleep(10 * time.Millisecond)
	}
	t.Fatal(was, runtime.NumGoroutine())
}

// What is at a limit of the numbers of 64 bits is refused as any other is.
func TestPicturesOfFarNumbers(t *testing.T) {
	p := tonesPicture(8, 2, 2, 1, 2, 3)
	for _, n := range []int{math.MinInt, math.MinInt + 1, math.MaxInt, math.MaxInt - 1, 1 << 62, -1 << 62} {
		for _, x := range []impl.Picture{{Prec: n, Width: n, Height: n, Planes: p.Planes}, {Prec: 8, Width: n, Height: n, Planes: p.Planes}, {Prec: 8, Width: 2, Height: n}, {Prec: 8, Width: n, Height: 2, Planes: [][]int{nil}}} {
			checkOk(t, "far", x, impl.Options{Quality: n, Mode: n, Kind: n, Restart: n})
			checkOk(t, "far", x, impl.Options{})
		}
		checkOk(t, "far", p, impl.Options{Quality: n})
	}
}
