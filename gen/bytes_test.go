package gen

import (
	"bytes"
	"fmt"
	"math"
	"slices"
	"testing"

	"oberlin/api"
)

// whole: an object that has something of everything.
func whole() *Object {
	return &Object{
		Name:       "M",
		Key:        math.MaxUint32,
		Leans:      []Lean{{"A", 0}, {"LongestName1", 1 << 31}},
		Words:      512,
		Points:     []int{0, 63, 64, 511},
		Records:    []Record{{0, nil, Part{0, None}}, {3, []int{1, 2}, Part{2, 7}}},
		Procedures: []Procedure{{"P", 1, 0, 300, 12}, {"", 0, 1, 0, 9000}},
		Code:       []Instruction{{Push, math.MinInt32, 0}, {Push, math.MaxInt32, 0}, {Place, 64, 8}, {Return, 0, 0}},
		Start:      3,
	}
}

// J1: objects are read as they were written, and written the same again.
func TestRead(t *testing.T) {
	for _, o := range []*Object{{}, whole()} {
		l := o.Bytes()
		got, err := Read(l)
		if err != nil || fmt.Sprint(*got) != fmt.Sprint(*o) {
			t.Fatalf("%v, %v, wanted %v", got, err, *o)
		}
		clear(l)
		if !bytes.Equal(got.Bytes(), o.Bytes()) {
			t.Errorf("%v: other bytes, when those that were read are others", *o)
		}
	}
}

// Numbers of all sizes are read as they were written, with as few bytes as are needed.
func TestNumbers(t *testing.T) {
	for _, x := range []int{0, 1, 63, 64, 8191, 8192, math.MaxInt32, math.MaxUint32, math.MaxInt, -1, -64, -65, math.MinInt32, math.MinInt} {
		var w writer
		w.number(&x)
		r, got := &reader{w.Bytes()}, 0
		r.number(&got)
		if got != x || len(r.left) > 0 {
			t.Errorf("%d was read as %d", x, got)
		}
		if small := x >= -64 && x < 64; small != (w.Len() == 1) {
			t.Errorf("%d has %d bytes", x, w.Len())
		}
	}
}

// refused says that bytes are no object.
func refused(t *testing.T, what string, l []byte) {
	t.Helper()
	if o, err := Read(l); o != nil || err != api.ErrForm {
		t.Fatalf("%s: %v, %v", what, o, err)
	}
}

// J1: what is cut short, or has one byte that is another one, is no object; nor is what has more.
func TestRefused(t *testing.T) {
	for _, o := range []*Object{{}, whole()} {
		l := o.Bytes()
		for i := range l {
			refused(t, "cut short", l[:i])
			for change := 1; change < 256; change++ {
				other := slices.Clone(l)
				other[i] ^= byte(change)
				refused(t, fmt.Sprintf("byte %d is another one", i), other)
			}
		}
		refused(t, "one more behind", append(slices.Clone(l), 0))
		refused(t, "one more ahead", append([]byte{0}, l...))
		refused(t, "twice", append(slices.Clone(l), l...))
	}
	refused(t, "nothing", nil)
}

// Broken bytes are caught, even if all that stands around them is right.
func TestBrokenInside(t *testing.T) {
	var w writer
	whole().over(&w)
	inside := w.Bytes()
	for i := range inside {
		refused(t, "inside cut short", seal(inside[:i]))
	}
	refused(t, "more inside", seal(append(slices.Clone(inside), 0)))
	refused(t, "a number without end", seal(slices.Repeat([]byte{255}, 100)))
	refused(t, "a text below nothing", seal([]byte{1}))
	refused(t, "a text without end", seal([]byte{254, 255, 255, 255, 255, 255, 255, 255, 255, 1}))
	refused(t, "a list without end", seal([]byte{0, 0, 254, 255, 255, 255, 255, 255, 255, 255, 255, 1, 0}))
}

// Whatever stands inside, it is an object or none.
func FuzzRead(f *testing.F) {
	var w writer
	whole().over(&w)
	f.Add(w.Bytes())
	f.Fuzz(func(t *testing.T, inside []byte) {
		o, err := Read(seal(inside))
		if (o == nil) == (err == nil) {
			t.Fatalf("%v, %v", o, err)
		}
		if o != nil {
			again, err := Read(o.Bytes())
			if err != nil || fmt.Sprint(*again) != fmt.Sprint(*o) {
				t.Fatalf("%v, %v, wanted %v", again, err, *o)
			}
		}
	})
}

// Operators have the signs of the document, in turn; nothing else has one.
func TestSigns(t *testing.T) {
	for i, sign := range signs {
		if op := operator(sign); op != Add+Op(i) || op.Sign() != sign {
			t.Errorf("%s: %d, %s", sign, op, op.Sign())
		}
	}
	for _, op := range []Op{Add - 1, AtLeast + 1, Push, Ops} {
		if op.Sign() != "" {
			t.Errorf("%d: %s", op, op.Sign())
		}
	}
	for op, sign := range map[Op]string{Add: "+", Subtract: "-", Multiply: "*", Divide: "DIV", Modulo: "MOD", Equal: "=", Unequal: "#", Less: "<", AtMost: "<=", Greater: ">", AtLeast: ">="} {
		if op.Sign() != sign {
			t.Errorf("%s: %s", sign, op.Sign())
		}
	}
}
