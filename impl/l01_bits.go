package impl

const (
	MaxBytes = 60000
	MaxBits  = 16
)

const OK = 0

type Field struct {
	Len int
	Val int
}

// A mark begins with markByte; stuffByte behind it says that it is none.
const (
	markByte  = 255
	stuffByte = 0
)

// bitPort is what a writer and a reader of bits have in common: both let
// numbers of a few bits through, one behind the other, until they are full
// or empty.
type bitPort interface {
	// left tells how many bits can still pass.
	left() int
	// pass lets a number of f.Len bits through and answers it: a writer takes
	// f.Val, a reader the one that comes next.
	pass(f Field) int
}

type bitWriter struct {
	bytes []byte
	laid  int
}

func (w *bitWriter) left() int { return 8*MaxBytes - w.laid }

func (w *bitWriter) pass(f Field) int {
	eachBit(f, w.put)
	return f.Val
}

func (w *bitWriter) put(bit int) {
	if w.laid%8 == 0 {
		// All ones at first, so that what no bit takes of the last byte is
		// filled up already.
		w.bytes = append(w.bytes, 255)
	}
	if bit == 0 {
		w.bytes[len(w.bytes)-1] &^= byte(128) >> uint(w.laid%8)
	}
	w.laid++
}

type bitReader struct {
	bytes []byte
	read  int
}

func (r *bitReader) left() int { return 8*len(r.bytes) - r.read }

func (r *bitReader) pass(f Field) int {
	n := 0
	for range f.Len {
		n = 2*n + r.next()
	}
	return n
}

func (r *bitReader) next() int {
	bit := r.bytes[r.read/8] >> uint(7-r.read%8) & 1
	r.read++
	return int(bit)
}

// eachBit hands the bits of a field to put, from the highest on.
func eachBit(f Field, put func(bit int)) {
	for at := f.Len - 1; at >= 0; at-- {
		put(f.Val >> uint(at) & 1)
	}
}

// passField lets one number through, unless its length is none or more than
// the port has left.
func passField(p bitPort, f Field) (int, bool) {
	if !lenOk(f.Len) || f.Len > p.left() {
		return 0, false
	}
	return p.pass(f), true
}

func lenOk(n int) bool { return n >= 0 && n <= MaxBits }

func fieldOk(f Field) bool {
	return lenOk(f.Len) && f.Val >= 0 && f.Val < 1<<uint(f.Len)
}

func FieldsOk(list []Field) bool {
	total := 0
	for _, f := range list {
		if !fieldOk(f) {
			return false
		}
		total += f.Len
	}
	return total <= 8*MaxBytes
}

func PackBits(list []Field) []byte {
	if !FieldsOk(list) {
		return nil
	}
	w := &bitWriter{}
	for _, f := range list {
		passField(w, f)
	}
	return w.bytes
}

func UnpackBits(b []byte, lens []int) ([]int, bool) {
	r := &bitReader{bytes: b}
	nums := make([]int, 0, len(lens))
	for _, n := range lens {
		val, ok := passField(r, Field{Len: n})
		if !ok {
			return nil, false
		}
		nums = append(nums, val)
	}
	return nums, true
}

func Stuff(b []byte) []byte {
	if len(b) > MaxBytes {
		return nil
	}
	out := make([]byte, 0, len(b))
	for _, x := range b {
		out = append(out, x)
		if x == markByte {
			out = append(out, stuffByte)
		}
	}
	return out
}

func Unstuff(b []byte) ([]byte, int) {
	var out []byte
	at := 0
	for at < len(b) && !markAt(b, at) {
		out = append(out, b[at])
		if b[at] == markByte {
			at++
		}
		at++
	}
	return out, at
}

// markAt tells whether the byte at a place begins a mark; one that is cut off
// by the end counts as one, as nothing says that it is not.
func markAt(b []byte, at int) bool {
	if b[at] != markByte {
		return false
	}
	return at+1 == len(b) || b[at+1] != stuffByte
}
