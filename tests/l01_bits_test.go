package tests

import (
	"bytes"
	"math"
	"slices"
	"strconv"
	"strings"
	"testing"

	"loop.example/g00139/impl"
)

// repeatField is n times the same field.
func repeatField(n int, f impl.Field) []impl.Field {
	return slices.Repeat([]impl.Field{f}, n)
}

// fullFields are fields of exactly 8 * MaxBytes bits.
func fullFields() []impl.Field {
	return repeatField(impl.MaxBytes/2, impl.Field{Len: 16, Val: 0x1234})
}

// wrongFields are fields of which none may be in a list.
func wrongFields() []impl.Field {
	list := []impl.Field{
		{Len: -1}, {Len: -1, Val: -1}, {Len: -16, Val: 1}, {Len: math.MinInt},
		{Len: 17}, {Len: 17, Val: 1}, {Len: 63, Val: 1}, {Len: 64, Val: 1}, {Len: 65}, {Len: math.MaxInt},
		{Len: 16, Val: math.MaxInt}, {Len: 16, Val: math.MinInt}, {Len: 0, Val: math.MinInt}, {Len: 16, Val: 1 << 32},
	}
	for n := 0; n <= impl.MaxBits; n++ {
		list = append(list, impl.Field{Len: n, Val: 1 << n}, impl.Field{Len: n, Val: -1})
	}
	return list
}

// bitText writes fields as text of noughts and ones, by another way than the program's.
func bitText(list []impl.Field) string {
	var s strings.Builder
	for _, f := range list {
		if f.Len > 0 {
			b := strconv.FormatInt(int64(f.Val), 2)
			s.WriteString(strings.Repeat("0", f.Len-len(b)) + b)
		}
	}
	return s.String()
}

func bytesOfText(s string) []byte {
	for len(s)%8 != 0 {
		s += "1"
	}
	var out []byte
	for ; s != ""; s = s[8:] {
		n, _ := strconv.ParseUint(s[:8], 2, 8)
		out = append(out, byte(n))
	}
	return out
}

func thrownFields(d *dice, n int) []impl.Field {
	var list []impl.Field
	for range n {
		l := d.below(impl.MaxBits + 1)
		v := d.below(1 << l)
		switch d.below(6) {
		case 0:
			v = 0
		case 1:
			v = 1<<l - 1
		}
		list = append(list, impl.Field{Len: l, Val: v})
	}
	return list
}

func lensAndVals(list []impl.Field) (lens, vals []int) {
	for _, f := range list {
		lens = append(lens, f.Len)
		vals = append(vals, f.Val)
	}
	return lens, vals
}

func TestBitConstants(t *testing.T) {
	if impl.MaxBytes != 60000 || impl.MaxBits != 16 || impl.OK != 0 {
		t.Fatal(impl.MaxBytes, impl.MaxBits, impl.OK)
	}
}

func TestFieldsOkEdges(t *testing.T) {
	if !impl.FieldsOk(nil) || !impl.FieldsOk([]impl.Field{}) {
		t.Fatal("no fields are fields")
	}
	for n := 0; n <= impl.MaxBits; n++ {
		for _, v := range []int{0, 1<<n - 1} {
			if !impl.FieldsOk([]impl.Field{{Len: n, Val: v}}) {
				t.Errorf("refused: Len %d, Val %d", n, v)
			}
		}
	}
	for _, f := range wrongFields() {
		for _, list := range [][]impl.Field{{f}, {f, {Len: 3, Val: 5}}, {{Len: 3, Val: 5}, f}} {
			if impl.FieldsOk(list) {
				t.Errorf("taken: %v", list)
			}
		}
	}
}

func TestFieldsOkTotal(t *testing.T) {
	full := fullFields()
	for _, x := range []struct {
		what string
		list []impl.Field
		want bool
	}{
		{"just full", full, true},
		{"full and no bits more", append(slices.Clone(full), impl.Field{}), true},
		{"full and a bit more behind", append(slices.Clone(full), impl.Field{Len: 1}), false},
		{"full and a bit more ahead", append([]impl.Field{{Len: 1}}, full...), false},
		{"a bit less", append(slices.Clone(full[1:]), impl.Field{Len: 15}), true},
		{"full of single bits", repeatField(8*impl.MaxBytes, impl.Field{Len: 1, Val: 1}), true},
		{"single bits, one too many", repeatField(8*impl.MaxBytes+1, impl.Field{Len: 1, Val: 1}), false},
		{"many without bits", repeatField(8*impl.MaxBytes+1, impl.Field{}), true},
		{"twice full", append(slices.Clone(full), full...), false},
	} {
		if got := impl.FieldsOk(x.list); got != x.want {
			t.Errorf("%s: %v", x.what, got)
		}
	}
}

func TestPackBitsByHand(t *testing.T) {
	for _, x := range []struct {
		list []impl.Field
		want []byte
	}{
		{nil, nil},
		{[]impl.Field{{}, {}}, nil},
		{[]impl.Field{{Len: 1, Val: 0}}, []byte{127}},
		{[]impl.Field{{Len: 1, Val: 1}}, []byte{255}},
		{[]impl.Field{{Len: 7, Val: 0}}, []byte{1}},
		{[]impl.Field{{Len: 8, Val: 0}}, []byte{0}},
		{[]impl.Field{{Len: 9, Val: 0}}, []byte{0, 127}},
		{[]impl.Field{{Len: 15, Val: 0}}, []byte{0, 1}},
		{[]impl.Field{{Len: 16, Val: 0x1234}}, []byte{0x12, 0x34}},
		{[]impl.Field{{Len: 4, Val: 1}, {Len: 16, Val: 0x2345}, {}, {Len: 4, Val: 6}}, []byte{0x12, 0x34, 0x56}},
		{[]impl.Field{{Len: 2, Val: 1}, {Len: 3, Val: 1}, {Len: 3, Val: 4}}, []byte{0b01001100}},
		{[]impl.Field{{Len: 16, Val: 65535}, {Len: 1, Val: 0}}, []byte{255, 255, 127}},
	} {
		if got := impl.PackBits(x.list); !bytes.Equal(got, x.want) {
			t.Errorf("%v: %v, not %v", x.list, got, x.want)
		}
	}
}

func TestPackBitsOfWrongFieldsIsNothing(t *testing.T) {
	for _, f := range wrongFields() {
		for _, list := range [][]impl.Field{{f}, {{Len: 8, Val: 5}, f}, {f, {Len: 8, Val: 5}}} {
			if got := impl.PackBits(list); len(got) != 0 {
				t.Errorf("%v: %v", list, got)
			}
		}
	}
}

func TestPackBitsAtTheLimit(t *testing.T) {
	full := fullFields()
	if b := impl.PackBits(full); !bytes.Equal(b, bytes.Repeat([]byte{0x12, 0x34}, impl.MaxBytes/2)) {
		t.Errorf("full: %d bytes, or others", len(b))
	}
	less := append(slices.Clone(full[1:]), impl.Field{Len: 15})
	if b := impl.PackBits(less); len(b) != impl.MaxBytes || b[len(b)-1] != 1 {
		t.Errorf("a bit less: %d bytes, or the last not filled up", len(b))
	}
	if b := impl.PackBits(append(full, impl.Field{Len: 1})); len(b) != 0 {
		t.Errorf("a bit more: %d bytes", len(b))
	}
}

func TestPackedBitsAreReadBack(t *testing.T) {
	d := dice(1)
	for i := range 3000 {
		list := thrownFields(&d, i%40)
		text := bitText(list)
		b := impl.PackBits(list)
		if !bytes.Equal(b, bytesOfText(text)) {
			t.Fatalf("%v: %v", list, b)
		}
		lens, vals := lensAndVals(list)
		if got, ok := impl.UnpackBits(b, lens); !ok || !slices.Equal(got, vals) {
			t.Fatalf("%v: %v %v", list, got, ok)
		}
		rest := 8*len(b) - len(text)
		got, ok := impl.UnpackBits(b, append(lens, rest))
		if !ok || got[len(list)] != 1<<rest-1 {
			t.Fatalf("%v: filled up with %v %v", list, got, ok)
		}
		if got, ok := impl.UnpackBits(b, append(lens, rest+1)); ok || len(got) != 0 {
			t.Fatalf("%v: a bit that is not there: %v %v", list, got, ok)
		}
	}
}

func TestEveryFieldIsReadBack(t *testing.T) {
	for n := 0; n <= impl.MaxBits; n++ {
		for v := 0; v < 1<<n; v++ {
			b := impl.PackBits([]impl.Field{{Len: 3, Val: 2}, {Len: n, Val: v}})
			if got, ok := impl.UnpackBits(b, []int{3, n}); !ok || len(got) != 2 || got[0] != 2 || got[1] != v {
				t.Fatal(n, v, got, ok)
			}
		}
	}
}

func TestUnpackBitsEdges(t *testing.T) {
	for _, x := range []struct {
		b    []byte
		lens []int
		want []int
		ok   bool
	}{
		{nil, nil, nil, true},
		{[]byte{5}, nil, nil, true},
		{nil, []int{0}, []int{0}, true},
		{nil, []int{0, 0, 0}, []int{0, 0, 0}, true},
		{nil, []int{1}, nil, false},
		{nil, []int{0, 1}, nil, false},
		{[]byte{0xa5}, []int{8}, []int{0xa5}, true},
		{[]byte{0xa5}, []int{8, 0}, []int{0xa5, 0}, true},
		{[]byte{0xa5}, []int{8, 1}, nil, false},
		{[]byte{0xa5}, []int{9}, nil, false},
		{[]byte{0xa5}, []int{3, 0, 5}, []int{5, 0, 5}, true},
		{[]byte{0xa5}, []int{3, 6}, nil, false},
		{[]byte{0xa5}, []int{3}, []int{5}, true},
		{[]byte{0x12, 0x34, 0x56}, []int{4, 16, 4}, []int{1, 0x2345, 6}, true},
		{[]byte{0x12, 0x34, 0x56}, []int{16, 8}, []int{0x1234, 0x56}, true},
		{[]byte{0x12, 0x34, 0x56}, []int{16, 9}, nil, false},
		{[]byte{0x12, 0x34, 0x56}, []int{17}, nil, false},
		{[]byte{0x12, 0x34, 0x56}, []int{-1}, nil, false},
		{[]byte{0x12, 0x34, 0x56}, []int{8, -1, 8}, nil, false},
		{[]byte{0x12, 0x34, 0x56}, []int{8, 8, 8, -1}, nil, false},
		{[]byte{0x12, 0x34, 0x56}, []int{8, 8, 8, 17}, nil, false},
		{[]byte{0x12, 0x34, 0x56}, []int{math.MaxInt}, nil, false},
		{[]byte{0x12, 0x34, 0x56}, []int{math.MinInt}, nil, false},
		{[]byte{0x12, 0x34, 0x56}, []int{math.MaxInt, math.MinInt, 8}, nil, false},
	} {
		got, ok := impl.UnpackBits(x.b, x.lens)
		if ok != x.ok || !slices.Equal(got, x.want) {
			t.Errorf("%v %v: %v %v", x.b, x.lens, got, ok)
		}
	}
}

// The chapter sets no limit to what is read, only to what is written.
func TestUnpackBitsOfManyBytes(t *testing.T) {
	b := bytes.Repeat([]byte{0x12, 0x34}, impl.MaxBytes/2+1)
	lens := slices.Repeat([]int{16}, impl.MaxBytes/2+1)
	if got, ok := impl.UnpackBits(b, lens); !ok || len(got) != len(lens) || got[len(got)-1] != 0x1234 {
		t.Error(len(got), ok)
	}
	if got, ok := impl.UnpackBits(b, append(lens, 1)); ok || len(got) != 0 {
		t.Error(len(got), ok)
	}
}

func TestStuffByHand(t *testing.T) {
	for _, x := range []struct{ b, want []byte }{
		{nil, nil},
		{[]byte{0}, []byte{0}},
		{[]byte{254}, []byte{254}},
		{[]byte{255}, []byte{255, 0}},
		{[]byte{255, 0}, []byte{255, 0, 0}},
		{[]byte{0, 255}, []byte{0, 255, 0}},
		{[]byte{255, 255}, []byte{255, 0, 255, 0}},
		{[]byte{255, 254, 1, 255, 217}, []byte{255, 0, 254, 1, 255, 0, 217}},
	} {
		if got := impl.Stuff(x.b); !bytes.Equal(got, x.want) {
			t.Errorf("%v: %v", x.b, got)
		}
	}
}

func TestStuffAtTheLimit(t *testing.T) {
	for _, x := range []byte{0, 7, 255} {
		b := bytes.Repeat([]byte{x}, impl.MaxBytes)
		want := b
		if x == 255 {
			want = bytes.Repeat([]byte{255, 0}, impl.MaxBytes)
		}
		got := impl.Stuff(b)
		if !bytes.Equal(got, want) {
			t.Errorf("%d: %d bytes, or others", x, len(got))
		}
		if back, n := impl.Unstuff(got); !bytes.Equal(back, b) || n != len(got) {
			t.Errorf("%d: back %d, %d", x, len(back), n)
		}
		if more := impl.Stuff(append(b, x)); len(more) != 0 {
			t.Errorf("%d: one more: %d bytes", x, len(more))
		}
	}
}

func TestUnstuffByHand(t *testing.T) {
	for _, x := range []struct {
		b, want []byte
		n       int
	}{
		{nil, nil, 0},
		{[]byte{0}, []byte{0}, 1},
		{[]byte{255}, nil, 0},
		{[]byte{255, 0}, []byte{255}, 2},
		{[]byte{255, 0, 0}, []byte{255, 0}, 3},
		{[]byte{255, 1}, nil, 0},
		{[]byte{255, 255}, nil, 0},
		{[]byte{255, 255, 0}, nil, 0},
		{[]byte{255, 0, 255}, []byte{255}, 2},
		{[]byte{255, 0, 255, 0}, []byte{255, 255}, 4},
		{[]byte{255, 0, 255, 255, 0}, []byte{255}, 2},
		{[]byte{1, 2, 255}, []byte{1, 2}, 2},
		{[]byte{1, 2, 255, 254}, []byte{1, 2}, 2},
		{[]byte{1, 255, 0, 2, 255, 5, 9, 255, 0}, []byte{1, 255, 2}, 4},
		{[]byte{0, 0, 254, 3}, []byte{0, 0, 254, 3}, 4},
	} {
		if got, n := impl.Unstuff(x.b); !bytes.Equal(got, x.want) || n != x.n {
			t.Errorf("%v: %v %d", x.b, got, n)
		}
	}
}

// Whatever b is: what is told stuffs to just so many bytes of b, and what
// stands behind these is the end or a mark.
func TestUnstuffOfAllShortTexts(t *testing.T) {
	letters := []byte{0, 1, 254, 255}
	texts := [][]byte{nil}
	for i := 0; i < len(texts); i++ {
		b := texts[i]
		got, n := impl.Unstuff(b)
		if n < 0 || n > len(b) || !bytes.Equal(impl.Stuff(got), b[:n]) {
			t.Fatal(b, got, n)
		}
		rest := b[n:]
		if len(rest) > 0 && (rest[0] != 255 || len(rest) > 1 && rest[1] == 0) {
			t.Fatal(b, got, n)
		}
		if len(b) < 6 {
			for _, x := range letters {
				texts = append(texts, slices.Concat(b, []byte{x}))
			}
		}
	}
}

func TestStuffedBytesAreGotBackUpToTheMark(t *testing.T) {
	d := dice(2)
	for i := range 600 {
		var b []byte
		for range d.below(60) {
			b = append(b, []byte{0, 255, 255, byte(d.below(256))}[d.below(4)])
		}
		s := impl.Stuff(b)
		if got, n := impl.Unstuff(s); !bytes.Equal(got, b) || n != len(s) {
			t.Fatal(b, got, n)
		}
		mark := byte(1 + i%255)
		for _, rest := range [][]byte{{255}, {255, mark}, {255, mark, 0, 255, 0, 7}} {
			if got, n := impl.Unstuff(slices.Concat(s, rest)); !bytes.Equal(got, b) || n != len(s) {
				t.Fatal(b, rest, got, n)
			}
		}
	}
}

// The chapter sets no limit to what is got back.
func TestUnstuffOfManyBytes(t *testing.T) {
	b := bytes.Repeat([]byte{255, 0, 7}, impl.MaxBytes)
	if got, n := impl.Unstuff(append(b, 255, 217)); n != len(b) || !bytes.Equal(got, bytes.Repeat([]byte{255, 7}, impl.MaxBytes)) {
		t.Fatal(len(got), n)
	}
}

func TestBitsBehindTheLengthAreNotRead(t *testing.T) {
	b := guard([]byte{9, 255}, 0, 3)
	if got, n := impl.Unstuff(b.list); !bytes.Equal(got, []byte{9}) || n != 1 {
		t.Error("Unstuff", got, n)
	}
	if got, ok := impl.UnpackBits(b.list, []int{16, 1}); ok || len(got) != 0 {
		t.Error("UnpackBits", got, ok)
	}
	lens := guard([]int{8}, -1)
	if got, ok := impl.UnpackBits(b.list, lens.list); !ok || !slices.Equal(got, []int{9}) {
		t.Error("UnpackBits", got, ok)
	}
	list := guard([]impl.Field{{Len: 8, Val: 3}}, impl.Field{Len: -1}, impl.Field{Len: 8, Val: 1})
	if got := impl.PackBits(list.list); !bytes.Equal(got, []byte{3}) || !impl.FieldsOk(list.list) {
		t.Error("PackBits", got)
	}
	if got := impl.Stuff(b.list); !bytes.Equal(got, []byte{9, 255, 0}) {
		t.Error("Stuff", got)
	}
}

// The answers are overwritten, to the end of their room, to see that they
// share nothing with an argument.
func TestBitsLeaveTheirArgumentsAlone(t *testing.T) {
	fields := guard([]impl.Field{{Len: 3, Val: 5}, {Len: 0}, {Len: 6, Val: 9}}, impl.Field{Len: 2, Val: 1})
	wrong := guard([]impl.Field{{Len: 3, Val: 5}, {Len: 3, Val: 8}}, impl.Field{Len: 2, Val: 1})
	lens := guard([]int{3, 6, 7}, 5, 5, 5)
	for _, b := range []guarded[byte]{guard([]byte{1, 2, 3}, 4, 5, 6), guard([]byte{255, 0, 7, 255}, 0, 8), guard([]byte{255}, 0)} {
		scribble(impl.PackBits(fields.list), 77)
		scribble(impl.PackBits(wrong.list), 77)
		nums, _ := impl.UnpackBits(b.list, lens.list)
		scribble(nums, 77)
		scribble(impl.Stuff(b.list), 77)
		got, _ := impl.Unstuff(b.list)
		scribble(got, 77)
		b.check(t, "bytes")
	}
	fields.check(t, "fields")
	wrong.check(t, "wrong fields")
	lens.check(t, "lens")
}

func TestBitsAnswerTheSameAgain(t *testing.T) {
	fields := []impl.Field{{Len: 3, Val: 5}, {Len: 16, Val: 4711}, {Len: 6, Val: 9}}
	b := []byte{1, 255, 0, 7, 255, 0}
	pack := func() []byte { return impl.PackBits(fields) }
	stuff := func() []byte { return impl.Stuff(b) }
	unstuff := func() []byte { got, _ := impl.Unstuff(b); return got }
	for i, f := range []func() []byte{pack, stuff, unstuff} {
		first := f()
		was := slices.Clone(first)
		impl.PackBits(repeatField(5, impl.Field{Len: 7, Val: 1}))
		impl.UnpackBits(b, []int{16, 16, 16, 16})
		second := f()
		scribble(first, 77)
		if !bytes.Equal(second, was) || !bytes.Equal(f(), was) {
			t.Error(i, second, was)
		}
	}
	first, _ := impl.UnpackBits(b, []int{8, 8})
	second, _ := impl.UnpackBits(b, []int{8, 8})
	scribble(first, 77)
	if !slices.Equal(second, []int{1, 255}) {
		t.Error(second)
	}
}
