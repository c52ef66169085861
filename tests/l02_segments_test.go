package tests

import (
	"bytes"
	"math"
	"slices"
	"strconv"
	"testing"

	"loop.example/g00139/impl"
)

func segPart(mark int, data ...byte) impl.Seg { return impl.Seg{Mark: mark, Data: data} }

func segRun(data ...byte) impl.Seg { return impl.Seg{Data: data} }

func segRestart(mark int) impl.Seg { return impl.Seg{Mark: mark} }

func sevens(n int) []byte { return bytes.Repeat([]byte{7}, n) }

// stream is a row of bytes between the beginning and the end of a stream.
func stream(inner ...byte) []byte { return slices.Concat([]byte("TS"), inner, []byte{255, 254}) }

func sameSegs(x, y []impl.Seg) bool {
	return slices.EqualFunc(x, y, func(a, b impl.Seg) bool { return a.Mark == b.Mark && bytes.Equal(a.Data, b.Data) })
}

func cloneSegs(list []impl.Seg) []impl.Seg {
	var out []impl.Seg
	for _, s := range list {
		out = append(out, impl.Seg{Mark: s.Mark, Data: bytes.Clone(s.Data)})
	}
	return out
}

// segsText writes segments by another way than the program's.
func segsText(list []impl.Seg) []byte {
	var out []byte
	for _, s := range list {
		switch {
		case s.Mark == 0:
			out = append(out, bytes.ReplaceAll(s.Data, []byte{255}, []byte{255, 0})...)
		case s.Mark < 240:
			out = append(out, 255, byte(s.Mark), byte(len(s.Data)/256), byte(len(s.Data)%256))
			out = append(out, s.Data...)
		default:
			out = append(out, 255, byte(s.Mark))
		}
	}
	return stream(out...)
}

// thrownSegs are SegsOk segments with many a 255 in them.
func thrownSegs(d *dice, n int) []impl.Seg {
	var list []impl.Seg
	last := -1
	for range n {
		data := make([]byte, d.below(9))
		for i := range data {
			data[i] = []byte{255, 0, 254, 240, 1, byte(d.below(256))}[d.below(6)]
		}
		s := segPart(1+d.below(239), data...)
		switch {
		case last == 0 && d.below(2) == 0:
			s = segRestart(240 + d.below(8))
		case last > 0 && len(data) > 0 && d.below(3) > 0:
			s = segRun(data...)
		}
		list = append(list, s)
		last = s.Mark
	}
	return list
}

// manySegs are n parts without data.
func manySegs(n int) []impl.Seg { return slices.Repeat([]impl.Seg{segPart(9)}, n) }

// turnSegs are n segments: a part, then run data and restarts by turns.
func turnSegs(n int) []impl.Seg {
	list := []impl.Seg{segPart(9)}
	for len(list) < n {
		if len(list)%2 == 1 {
			list = append(list, segRun(5))
		} else {
			list = append(list, segRestart(240+len(list)/2%8))
		}
	}
	return list
}

// longSegs are SegsOk segments that take exactly n bytes, of about MaxBytes.
func longSegs(n int) []impl.Seg {
	return []impl.Seg{segPart(1, sevens(20000)...), segPart(2, sevens(20000)...), segPart(3, sevens(n-40016)...)}
}

func goodSegs() map[string][]impl.Seg {
	return map[string][]impl.Seg{
		"none":                    nil,
		"a part without data":     {segPart(1)},
		"the first part":          {segPart(1, 8)},
		"the last part":           {segPart(239, 8, 9)},
		"the same part twice":     {segPart(5, 1), segPart(5, 1)},
		"255 in a part":           {segPart(7, 255), segPart(7, 255, 254), segPart(7, 255, 0, 255)},
		"run data behind a part":  {segPart(7, 3), segRun(4, 5)},
		"behind an empty one":     {segPart(7), segRun(0)},
		"255 in run data":         {segPart(7), segRun(255)},
		"255 and 0 in run data":   {segPart(7), segRun(255, 0, 255, 255, 0, 0, 255, 254)},
		"a restart at the end":    {segPart(7), segRun(1), segRestart(240)},
		"run data behind it":      {segPart(7), segRun(1), segRestart(247), segRun(2)},
		"a part behind a restart": {segPart(7), segRun(1), segRestart(243), segPart(8)},
		"a part behind run data":  {segPart(7), segRun(255), segPart(8, 6)},
		"all restarts":            turnSegs(18),
		"256 bytes":               {segPart(7, sevens(256)...), segRun(sevens(256)...)},
		"255 bytes":               {segPart(7, sevens(255)...), segRun(sevens(255)...)},
		"MaxData in a part":       {segPart(7, sevens(impl.MaxData)...)},
		"MaxData in run data":     {segPart(7), segRun(sevens(impl.MaxData)...)},
		"MaxData of 255":          {segPart(7, bytes.Repeat([]byte{255}, impl.MaxData)...), segRun(bytes.Repeat([]byte{255}, 19990)...)},
		"MaxSegs":                 manySegs(impl.MaxSegs),
		"MaxSegs, the last a run": turnSegs(impl.MaxSegs),
		"MaxSegs, a restart last": slices.Concat(manySegs(1), turnSegs(impl.MaxSegs-1)),
		"MaxBytes":                longSegs(impl.MaxBytes),
		"one byte less":           longSegs(impl.MaxBytes - 1),
	}
}

func TestSegsReadBack(t *testing.T) {
	for what, list := range goodSegs() {
		checkSegs(t, what, list)
	}
	d := dice(2)
	for n := range 2000 {
		checkSegs(t, "thrown "+strconv.Itoa(n), thrownSegs(&d, d.below(20)))
	}
}

func checkSegs(t *testing.T, what string, list []impl.Seg) {
	t.Helper()
	if !impl.SegsOk(list) {
		t.Fatalf("%s: not SegsOk", what)
	}
	b := impl.WriteSegs(list)
	if !bytes.Equal(b, segsText(list)) {
		t.Fatalf("%s: written as %d bytes, %d are asked for", what, len(b), len(segsText(list)))
	}
	got, f := impl.ReadSegs(b)
	if f != (impl.Fault{}) || !sameSegs(got, list) {
		t.Fatalf("%s: fault %v, %d segments of %d", what, f, len(got), len(list))
	}
}

// wrongSegs are lists that are not SegsOk.
func wrongSegs() map[string][]impl.Seg {
	m := map[string][]impl.Seg{
		"run data first":            {segRun(1)},
		"run data behind run data":  {segPart(7), segRun(1), segRun(1)},
		"run data without a byte":   {segPart(7), segRun()},
		"a restart first":           {segRestart(240)},
		"a restart behind a part":   {segPart(7), segRestart(240)},
		"a restart behind another":  {segPart(7), segRun(1), segRestart(240), segRestart(241)},
		"a restart with data":       {segPart(7), segRun(1), {Mark: 240, Data: []byte{1}}},
		"MaxData and one more":      {segPart(7, sevens(impl.MaxData+1)...)},
		"run data of one more":      {segPart(7), segRun(sevens(impl.MaxData + 1)...)},
		"MaxSegs and one more":      manySegs(impl.MaxSegs + 1),
		"so many, run data last":    append(manySegs(impl.MaxSegs), segRun(1)),
		"the last of many is wrong": append(manySegs(impl.MaxSegs-1), segRestart(240)),
	}
	for _, mark := range []int{-1, 248, 249, 253, 254, 255, 256, 263, 496, 1 << 32, 1<<32 + 7, -249, math.MinInt, math.MaxInt} {
		name := "Mark " + strconv.Itoa(mark)
		m[name] = []impl.Seg{segPart(mark)}
		m[name+" with data"] = []impl.Seg{segPart(mark, 1)}
		m[name+" behind run data"] = []impl.Seg{segPart(7), segRun(1), segPart(mark)}
		m[name+" between"] = []impl.Seg{segPart(7), segPart(mark, 1), segRun(1)}
	}
	return m
}

func TestSegsRefused(t *testing.T) {
	for what, list := range wrongSegs() {
		if impl.SegsOk(list) {
			t.Errorf("%s: SegsOk", what)
		}
		if b := impl.WriteSegs(list); len(b) != 0 {
			t.Errorf("%s: %d bytes are written", what, len(b))
		}
	}
}

// Each Mark alone, with and without data, and behind run data.
func TestSegsMarks(t *testing.T) {
	for mark := -300; mark <= 600; mark++ {
		part := mark >= 1 && mark <= 239
		restart := mark >= 240 && mark <= 247
		behindPart := []impl.Seg{segPart(7, 2), segPart(mark, 1)}
		behindRun := []impl.Seg{segPart(7, 2), segRun(3), segPart(mark)}
		for _, x := range []struct {
			list []impl.Seg
			ok   bool
		}{
			{[]impl.Seg{segPart(mark)}, part},
			{[]impl.Seg{segPart(mark, 1)}, part},
			{behindPart, part || mark == 0},
			{behindRun, part || restart},
		} {
			if impl.SegsOk(x.list) != x.ok {
				t.Errorf("%v: SegsOk is %v", x.list, !x.ok)
			}
			if (len(impl.WriteSegs(x.list)) > 0) != x.ok {
				t.Errorf("%v: written or not, not as asked", x.list)
			}
		}
	}
}

// What is SegsOk but takes more than MaxBytes bytes is not written.
func TestSegsTooLong(t *testing.T) {
	ones := bytes.Repeat([]byte{255}, 20000)
	for what, list := range map[string][]impl.Seg{
		"one more":            longSegs(impl.MaxBytes + 1),
		"by the end alone":    longSegs(impl.MaxBytes + 2),
		"and one more":        longSegs(impl.MaxBytes + 3),
		"by a 0 behind a 255": {segPart(1, sevens(20000)...), segPart(2, sevens(19985)...), segRun(slices.Concat(sevens(20000-1-1), []byte{255})...), segPart(3)},
		"by stuffing":         {segPart(1, sevens(20000)...), segRun(ones...)},
		"by far":              slices.Repeat([]impl.Seg{segPart(1, ones...), segRun(ones...)}, impl.MaxSegs/2),
		"by many":             slices.Repeat([]impl.Seg{segPart(1, sevens(197)...)}, impl.MaxSegs),
	} {
		if !impl.SegsOk(list) {
			t.Errorf("%s: not SegsOk", what)
		}
		if b := impl.WriteSegs(list); len(b) != 0 {
			t.Errorf("%s: %d bytes are written", what, len(b))
		}
	}
	checkSegs(t, "stuffed to MaxBytes", []impl.Seg{segPart(1, sevens(20000)...), segPart(2, sevens(19988)...), segRun(slices.Concat(sevens(19998), []byte{255})...)})
}

// headOf are the bytes of segments, without the end.
func headOf(list []impl.Seg) []byte {
	b := segsText(list)
	return b[:len(b)-2]
}

// faultRow is a row of bytes, and the fault that is met in it.
type faultRow struct {
	b    []byte
	code int
	at   int
}

func segFaults() map[string]faultRow {
	part := []byte("TS\xff\x07\x00\x01\x02")
	run := slices.Concat(part, []byte{3, 255, 0})
	restart := slices.Concat(run, []byte{255, 244})
	behind := func(b []byte, more ...byte) []byte { return slices.Concat(b, more) }
	m := map[string]faultRow{
		"bytes: one more":          {segsText(longSegs(impl.MaxBytes + 1)), impl.SgBytes, 0},
		"bytes: of nothing":        {make([]byte, impl.MaxBytes+1), impl.SgBytes, 0},
		"bytes: far more":          {make([]byte, 3*impl.MaxBytes), impl.SgBytes, 0},
		"begin: MaxBytes":          {make([]byte, impl.MaxBytes), impl.SgBegin, 0},
		"begin: nothing":           {nil, impl.SgBegin, 0},
		"begin: one byte":          {[]byte("T"), impl.SgBegin, 0},
		"begin: the first":         {[]byte("SS\xff\xfe"), impl.SgBegin, 0},
		"begin: the second":        {[]byte("TT\xff\xfe"), impl.SgBegin, 0},
		"begin: turned about":      {[]byte("ST\xff\xfe"), impl.SgBegin, 0},
		"begin: later":             {[]byte("\xffTS\xff\xfe"), impl.SgBegin, 0},
		"end: at once":             {[]byte("TS"), impl.SgEnd, 2},
		"end: behind a 255":        {[]byte("TS\xff"), impl.SgEnd, 3},
		"end: behind a part":       {part, impl.SgEnd, 7},
		"end: 255 behind it":       {behind(part, 255), impl.SgEnd, 8},
		"end: in the data":         {part[:6], impl.SgEnd, 6},
		"end: in the number":       {part[:5], impl.SgEnd, 5},
		"end: ahead of it":         {part[:4], impl.SgEnd, 4},
		"end: in a great number":   {[]byte("TS\xff\x07\x4e"), impl.SgEnd, 5},
		"end: MaxData are wanted":  {[]byte("TS\xff\x07\x4e\x20"), impl.SgEnd, 6},
		"end: one is wanted":       {behind([]byte("TS\xff\x07\x4e\x20"), sevens(19999)...), impl.SgEnd, 20005},
		"end: end within data":     {[]byte("TS\xff\x07\x00\x04\xff\xfe"), impl.SgEnd, 8},
		"end: in run data":         {run, impl.SgEnd, 10},
		"end: 255 in run data":     {run[:9], impl.SgEnd, 9},
		"end: behind a restart":    {restart, impl.SgEnd, 12},
		"end: 255 behind that":     {behind(restart, 255), impl.SgEnd, 13},
		"end: MaxData of run data": {behind(part, sevens(impl.MaxData)...), impl.SgEnd, 20007},
		"end: and a 255":           {behind(behind(part, sevens(impl.MaxData)...), 255), impl.SgEnd, 20008},
		"mark: a byte first":       {[]byte("TS\x00\xff\xfe"), impl.SgMark, 2},
		"mark: 254 first":          {[]byte("TS\xfe"), impl.SgMark, 2},
		"mark: run data first":     {[]byte("TS\xff\x00\xff\xfe"), impl.SgMark, 2},
		"mark: a restart first":    {[]byte("TS\xff\xf0\xff\xfe"), impl.SgMark, 2},
		"mark: the last one":       {[]byte("TS\xff\xf7\xff\xfe"), impl.SgMark, 2},
		"mark: behind a part":      {behind(part, 255, 240, 255, 254), impl.SgMark, 7},
		"mark: behind a restart":   {behind(restart, 255, 245, 255, 254), impl.SgMark, 12},
		"mark: far behind":         {behind(headOf(manySegs(299)), 255, 248), impl.SgMark, 2 + 4*299},
		"long: a part":             {[]byte("TS\xff\x07\x4e\x21"), impl.SgLong, 2},
		"long: the longest":        {[]byte("TS\xff\x07\xff\xff"), impl.SgLong, 2},
		"long: with its bytes":     {segsText([]impl.Seg{segPart(7, sevens(20001)...)}), impl.SgLong, 2},
		"long: a later part":       {behind(restart, 255, 8, 80, 0), impl.SgLong, 12},
		"long: run data":           {segsText([]impl.Seg{segPart(7), segRun(sevens(20001)...)}), impl.SgLong, 6},
		"long: stuffed":            {segsText([]impl.Seg{segPart(7), segRun(bytes.Repeat([]byte{255}, 20001)...)}), impl.SgLong, 6},
		"long: behind a restart":   {behind(restart, sevens(20001)...), impl.SgLong, 12},
		"many: a part":             {segsText(manySegs(301)), impl.SgMany, 2 + 4*300},
		"many: more parts":         {segsText(manySegs(400)), impl.SgMany, 2 + 4*300},
		"many: run data":           {segsText(append(manySegs(300), segRun(4, 255))), impl.SgMany, 2 + 4*300},
		"many: run data of 255":    {segsText(append(manySegs(300), segRun(255))), impl.SgMany, 2 + 4*300},
		"many: a restart":          {segsText(turnSegs(301)), impl.SgMany, 2 + 4 + 150 + 2*149},
		"many: behind a restart":   {segsText(append(manySegs(1), turnSegs(300)...)), impl.SgMany, 2 + 8 + 149 + 2*149},
		"rest: one byte":           {[]byte("TS\xff\xfe\x00"), impl.SgRest, 4},
		"rest: another end":        {behind(stream(), 255, 254), impl.SgRest, 4},
		"rest: half of one":        {behind(stream(), 255), impl.SgRest, 4},
		"rest: what is wrong":      {behind(stream(), 255, 248), impl.SgRest, 4},
		"rest: behind all":         {behind(behind(restart, 255, 254), 84, 83), impl.SgRest, 14},
		"rest: behind MaxSegs":     {behind(segsText(manySegs(300)), 255, 9, 0, 0), impl.SgRest, 2 + 4*300 + 2},
		"rest: up to MaxBytes":     {behind(stream(), make([]byte, impl.MaxBytes-4)...), impl.SgRest, 4},
	}
	for _, x := range []byte{248, 249, 250, 251, 252, 253, 255} {
		n := strconv.Itoa(int(x))
		m["mark: first "+n] = faultRow{[]byte{84, 83, 255, x}, impl.SgMark, 2}
		m["mark: twice "+n] = faultRow{[]byte{84, 83, 255, x, 254}, impl.SgMark, 2}
		m["mark: behind a part "+n] = faultRow{behind(part, 255, x, 255, 254), impl.SgMark, 7}
		m["mark: behind run data "+n] = faultRow{behind(run, 255, x, 255, 254), impl.SgMark, 10}
		m["mark: behind a restart "+n] = faultRow{behind(restart, 255, x, 255, 254), impl.SgMark, 12}
	}
	return m
}

func TestSegsFaults(t *testing.T) {
	for what, x := range segFaults() {
		checkFault(t, what, x.b, x.code, x.at)
	}
}

func checkFault(t *testing.T, what string, b []byte, code, at int) {
	t.Helper()
	list, f := impl.ReadSegs(b)
	if f != (impl.Fault{Code: code, At: at}) {
		t.Errorf("%s: fault %v, %d at %d is asked for", what, f, code, at)
	}
	if len(list) != 0 {
		t.Errorf("%s: %d segments beside a fault", what, len(list))
	}
}

// segTwoFaults are rows of bytes with two faults, and the one that is told.
func segTwoFaults() map[string]faultRow {
	parts, runs := headOf(manySegs(300)), headOf(turnSegs(300))
	restarts := headOf(append(manySegs(1), turnSegs(299)...))
	seven := func(b []byte, n int, more ...byte) []byte { return slices.Concat(b, sevens(n), more) }
	return map[string]faultRow{
		"mark, many: none of 301":         {slices.Concat(parts, []byte{255, 248}), impl.SgMark, len(parts)},
		"mark, many: 255 twice":           {slices.Concat(runs, []byte{255, 255}), impl.SgMark, len(runs)},
		"mark, many: a restart":           {slices.Concat(parts, []byte{255, 240}), impl.SgMark, len(parts)},
		"mark, many: restart on restart":  {slices.Concat(restarts, []byte{255, 247}), impl.SgMark, len(restarts)},
		"many, long: a part":              {slices.Concat(parts, []byte{255, 1, 255, 255}), impl.SgMany, len(parts)},
		"many, long: behind run data":     {slices.Concat(runs, []byte{255, 1, 78, 33}), impl.SgMany, len(runs)},
		"many, long: run data":            {seven(parts, 20001, 255, 254), impl.SgMany, len(parts)},
		"many, long, end: run data":       {seven(restarts, 20001), impl.SgMany, len(restarts)},
		"many, end: a part without all":   {slices.Concat(parts, []byte{255, 1}), impl.SgMany, len(parts)},
		"many, end: half of a number":     {slices.Concat(parts, []byte{255, 1, 0}), impl.SgMany, len(parts)},
		"many, end: a part without data":  {slices.Concat(parts, []byte{255, 1, 0, 1}), impl.SgMany, len(parts)},
		"many, end: run data":             {seven(parts, 1), impl.SgMany, len(parts)},
		"many, end: run data of 255":      {slices.Concat(restarts, []byte{255, 0}), impl.SgMany, len(restarts)},
		"many, end: a restart":            {slices.Concat(runs, []byte{255, 240}), impl.SgMany, len(runs)},
		"end: nothing is 301":             {parts, impl.SgEnd, len(parts)},
		"end: 255 is none yet":            {slices.Concat(parts, []byte{255}), impl.SgEnd, len(parts) + 1},
		"end: nor behind run data":        {slices.Concat(runs, []byte{255}), impl.SgEnd, len(runs) + 1},
		"end: nor behind a restart":       {slices.Concat(restarts, []byte{255}), impl.SgEnd, len(restarts) + 1},
		"long, end: a part":               {[]byte("TS\xff\x01\x4e\x21\x05"), impl.SgLong, 2},
		"long, end: run data":             {seven([]byte("TS\xff\x01\x00\x00"), 20001), impl.SgLong, 6},
		"long, end: run data, then a 255": {seven([]byte("TS\xff\x01\x00\x00"), 20001, 255), impl.SgLong, 6},
		"long, mark: run data, then none": {seven([]byte("TS\xff\x01\x00\x00"), 20001, 255, 255), impl.SgLong, 6},
		"mark, long: run data first":      {seven([]byte("TS"), 20001), impl.SgMark, 2},
		"mark, end: run data first":       {[]byte("TS\xff\x00"), impl.SgMark, 2},
		"begin, mark":                     {[]byte("T\xff\xff"), impl.SgBegin, 0},
		"bytes, begin":                    {sevens(impl.MaxBytes + 1), impl.SgBytes, 0},
		"bytes, rest":                     {seven(stream(), impl.MaxBytes), impl.SgBytes, 0},
	}
}

// Of one segment SgMark, then SgMany, then SgLong, then SgEnd.
func TestSegsTwoFaults(t *testing.T) {
	for what, x := range segTwoFaults() {
		checkFault(t, what, x.b, x.code, x.at)
	}
}

// A stream that is cut short ends too early, wherever it is cut; one that goes
// on has a rest.
func TestSegsCutShort(t *testing.T) {
	d := dice(22)
	for range 300 {
		b := impl.WriteSegs(thrownSegs(&d, d.below(8)))
		for n := range b {
			code, at := impl.SgEnd, n
			if n < 2 {
				code, at = impl.SgBegin, 0
			}
			// The other bytes stand behind, and must not be seen.
			checkFault(t, "cut short", b[:n], code, at)
		}
		checkFault(t, "longer", append(bytes.Clone(b), byte(d.below(256))), impl.SgRest, len(b))
	}
}

// Whatever is read is written as the same bytes; with a fault there is a code
// and a place of the bytes or their end.
func TestSegsOfThrownBytes(t *testing.T) {
	d := dice(222)
	read := 0
	for range 60000 {
		b := segsText(thrownSegs(&d, d.below(6)))
		for range 1 + d.below(3) {
			b[d.below(len(b))] = []byte{255, 0, 254, 240, 1, 84, 83, byte(d.below(256))}[d.below(8)]
		}
		list, f := impl.ReadSegs(b)
		if f.Code == impl.OK {
			read++
			if f.At != 0 || !impl.SegsOk(list) || !bytes.Equal(impl.WriteSegs(list), b) {
				t.Fatalf("%v is read as %v, %v", b, list, f)
			}
			continue
		}
		if f.Code < impl.SgBegin || f.Code > impl.SgRest || f.At < 0 || f.At > len(b) || len(list) != 0 {
			t.Fatalf("%v is read as %v, %v", b, list, f)
		}
	}
	if read < 1000 {
		t.Fatalf("only %d rows of bytes were read", read)
	}
}

// guardedSegs are segments, each list of them with spare room behind it.
type guardedSegs struct {
	list, whole, was []impl.Seg
	data             []guarded[byte]
}

func guardSegs(list []impl.Seg) guardedSegs {
	g := guardedSegs{}
	for _, s := range append(slices.Clone(list), segPart(5, 55), segRun(56)) {
		d := guard(s.Data, 251, 252, 253)
		g.data = append(g.data, d)
		g.whole = append(g.whole, impl.Seg{Mark: s.Mark, Data: d.list})
	}
	g.list, g.was = g.whole[:len(list)], cloneSegs(g.whole)
	return g
}

func (g guardedSegs) check(t *testing.T, what string) {
	t.Helper()
	if !sameSegs(g.whole, g.was) {
		t.Errorf("%s: an argument, or the room behind it, was written into", what)
	}
	for _, d := range g.data {
		d.check(t, what)
	}
}

func TestSegsLeaveArguments(t *testing.T) {
	for _, lists := range []map[string][]impl.Seg{goodSegs(), wrongSegs()} {
		for what, list := range lists {
			g := guardSegs(list)
			ok, b := impl.SegsOk(g.list), impl.WriteSegs(g.list)
			g.check(t, what)
			if ok != impl.SegsOk(list) || !bytes.Equal(b, impl.WriteSegs(list)) {
				t.Errorf("%s: another answer with other room behind the lists", what)
			}
			r := guard(segsText(list), 255, 254, 7)
			x, f := impl.ReadSegs(r.list)
			r.check(t, what)
			if y, g := impl.ReadSegs(segsText(list)); f != g || !sameSegs(x, y) {
				t.Errorf("%s: the same bytes are read as something else", what)
			}
		}
	}
	for what, x := range segFaults() {
		for _, behind := range [][]byte{{255, 254}, {254}, {0, 255, 254}} {
			r := guard(x.b, behind...)
			checkFault(t, what, r.list, x.code, x.at)
			r.check(t, what)
		}
	}
}

func TestSegsAnswersAreNewMemory(t *testing.T) {
	for what, list := range goodSegs() {
		own := cloneSegs(list)
		b, again := impl.WriteSegs(own), impl.WriteSegs(own)
		x, _ := impl.ReadSegs(again)
		y, _ := impl.ReadSegs(again)
		scribble(again, 77)
		for i := range y {
			scribble(y[i].Data, 88)
			for j := range y {
				if j > i && !bytes.Equal(y[j].Data, list[j].Data) {
					t.Fatalf("%s: two lists of one answer share memory", what)
				}
			}
		}
		scribble(y, segPart(99, 99))
		if !sameSegs(x, list) {
			t.Errorf("%s: what was read shares memory with the bytes or with another answer", what)
		}
		for _, s := range own {
			scribble(s.Data, 66)
		}
		scribble(own, segPart(99, 99))
		if !bytes.Equal(b, segsText(list)) {
			t.Errorf("%s: what was written shares memory with the segments or with another answer", what)
		}
	}
}
