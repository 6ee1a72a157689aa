// Package bits is layer 1: numbers and texts as bytes, and the sum of bytes.
package bits

import (
	"math"

	"almonry/api"
)

const (
	polynomial = 0xEDB88320
	maxWidth   = 8
	base       = 128 // of the sevens; also what marks a digit that another one follows
	maxSevens  = 9   // as many digits to the base 128 as the greatest int has
)

// Sum is the check of bytes.
func Sum(data string) uint32 {
	c := uint32(math.MaxUint32)
	for i := 0; i < len(data); i++ {
		c = sumByte(c ^ uint32(data[i]))
	}
	return c ^ math.MaxUint32
}

func sumByte(c uint32) uint32 {
	for range 8 {
		if c&1 == 1 {
			c = c>>1 ^ polynomial
		} else {
			c >>= 1
		}
	}
	return c
}

// Big is a number as so many bytes, the highest one first.
func Big(n, width int) string {
	if width < 1 || width > maxWidth || n < 0 {
		return ""
	}
	laid := make([]byte, width)
	for i := width - 1; i >= 0; i-- {
		laid[i] = byte(n)
		n >>= 8
	}
	return string(laid)
}

// Of is the number of bytes, the highest one first, modulo 2 to the 63.
func Of(data string) int {
	var n uint64
	for i := 0; i < len(data); i++ {
		n = n<<8 | uint64(data[i])
	}
	return int(n & math.MaxInt64)
}

// Writer lays numbers and texts one behind the other.
type Writer struct {
	laid []byte
}

// New is one that has laid nothing.
func New() *Writer { return &Writer{} }

// Num lays the sevens of each number; one below 0 counts as 0.
func (w *Writer) Num(ns ...int) {
	if w == nil {
		return
	}
	for _, n := range ns {
		w.laid = appendSevens(w.laid, max(n, 0))
	}
}

func appendSevens(laid []byte, n int) []byte {
	for n >= base {
		laid = append(laid, byte(n%base+base))
		n /= base
	}
	return append(laid, byte(n))
}

// Text lays how many bytes a text has, and the text.
func (w *Writer) Text(s string) {
	if w == nil {
		return
	}
	w.Num(len(s))
	w.laid = append(w.laid, s...)
}

// Bytes is all that was laid.
func (w *Writer) Bytes() string {
	if w == nil {
		return ""
	}
	return string(w.laid)
}

// Reader takes up again what a Writer has laid.
type Reader struct {
	left string
	err  api.Errno
}

// Read is a reader of bytes.
func Read(data string) *Reader { return &Reader{left: data} }

// Num takes a number of at most so much; a most below 0 counts as 0.
func (r *Reader) Num(most int) int {
	if r.Err() != api.OK {
		return 0
	}
	n, size, err := sevens(r.left)
	if err == api.OK && n > max(most, 0) {
		err = api.ErrNumber
	}
	if err != api.OK {
		r.fail(err)
		return 0
	}
	r.left = r.left[size:]
	return n
}

// sevens is the number whose sevens data begins with, and how many they are.
func sevens(data string) (n, size int, err api.Errno) {
	for i := 0; i < len(data); i++ {
		digit := int(data[i])
		if digit < base {
			// A last digit 0 would be a second way to write a shorter number.
			if digit == 0 && i > 0 {
				return 0, 0, api.ErrNumber
			}
			return n | digit<<(7*i), i + 1, api.OK
		}
		if i == maxSevens-1 {
			return 0, 0, api.ErrNumber
		}
		n |= (digit - base) << (7 * i)
	}
	return 0, 0, api.ErrShort
}

// fail keeps nothing but the error: what is behind a fault is not read any more.
func (r *Reader) fail(err api.Errno) {
	r.left = ""
	r.err = err
}

// Text takes a text of at most so many bytes.
func (r *Reader) Text(most int) string {
	size := r.Num(most)
	if r.Err() != api.OK {
		return ""
	}
	if size > len(r.left) {
		r.fail(api.ErrShort)
		return ""
	}
	text := r.left[:size]
	r.left = r.left[size:]
	return text
}

// Left is how many bytes are left, 0 if something was wrong.
func (r *Reader) Left() int {
	if r == nil {
		return 0
	}
	return len(r.left)
}

// Err is what was wrong first.
func (r *Reader) Err() api.Errno {
	if r == nil {
		return api.ErrNil
	}
	return r.err
}

// End is Err, or that bytes are left.
func (r *Reader) End() api.Errno {
	if err := r.Err(); err != api.OK {
		return err
	}
	if r.Left() > 0 {
		return api.ErrMore
	}
	return api.OK
}
