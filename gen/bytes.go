package gen

import (
	"bytes"

	"oberlin/api"
	"oberlin/face"
)

// Bytes of an object.
func (o *Object) Bytes() []byte {
	var w writer
	o.over(&w)
	return seal(w.Bytes())
}

// Read is the object that has these bytes; ErrForm: they are none.
func Read(l []byte) (o *Object, err error) {
	defer func() {
		if recover() != nil {
			o, err = nil, api.ErrForm
		}
	}()
	r := &reader{opened(l)}
	o = &Object{}
	o.over(r)
	expect(len(r.left) == 0)
	return o, nil
}

// expect throws, unless bytes are as they should be.
func expect(right bool) {
	if !right {
		panic(api.ErrForm)
	}
}

// What stands around an object: the mark and how many bytes it has ahead, the number of all these behind. So nothing that is cut short is an object, nor what is one but for a byte: it has another number.
const (
	mark  = "obj1"
	ahead = len(mark) + fixed
	fixed = 4 // bytes of a number out there
	octet = 8 // bits of a byte
)

func seal(inside []byte) []byte {
	var w writer
	w.WriteString(mark)
	w.outside(len(inside))
	w.Write(inside)
	w.outside(face.Number(w.String()))
	return w.Bytes()
}

// opened is what stands inside.
func opened(l []byte) []byte {
	inside := l[ahead : len(l)-fixed]
	expect(bytes.Equal(seal(inside), l))
	return inside
}

// tape: what an object goes over. It is told once, for writing and reading, so it is read as it was written.
type tape interface {
	number(*int)
	text(*string)
}

// each of a list goes over a tape, behind how many there are.
func each[T any](t tape, l *[]T, one func(*T, tape)) {
	count := len(*l)
	t.number(&count)
	for i := range count {
		if i == len(*l) {
			var empty T
			*l = append(*l, empty)
		}
		one(&(*l)[i], t)
	}
}

// Numbers inside have as many bytes as they need, the lowest bits first.
const (
	more = 128 // in a byte: there are higher bits behind it
	bits = 7   // of the number in a byte
)

type writer struct{ bytes.Buffer }

func (w *writer) outside(x int) {
	for i := range fixed {
		w.WriteByte(byte(x >> (i * octet)))
	}
}

// number: a small one below 0 is to have few bytes, too, so its sign is its lowest bit.
func (w *writer) number(x *int) {
	u := uint64(*x)<<1 ^ uint64(*x>>63)
	for ; u >= more; u >>= bits {
		w.WriteByte(byte(u) | more)
	}
	w.WriteByte(byte(u))
}

func (w *writer) text(s *string) {
	count := len(*s)
	w.number(&count)
	w.WriteString(*s)
}

type reader struct{ left []byte }

func (r *reader) number(x *int) {
	u := uint64(0)
	for i := 0; ; i += bits {
		b := r.left[0]
		r.left = r.left[1:]
		u |= uint64(b%more) << i
		if b < more {
			break
		}
	}
	*x = int(u>>1) ^ -int(u&1)
}

func (r *reader) text(s *string) {
	count := 0
	r.number(&count)
	*s = string(r.left[:count])
	r.left = r.left[count:]
}
