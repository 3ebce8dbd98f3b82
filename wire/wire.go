// Package wire is layer 1: numbers and bytes, there and back. See shared/doc/01-wire.md.
package wire

import "causeway/api"

// longest is how many bytes a number has at most.
const longest = 8

// mostOctets is the greatest length that two bytes can tell.
const mostOctets = 1<<16 - 1

// number is a number's bytes, the highest first. Shorter ones stand at its end: what is ahead of them is 0 then, whichever size it was.
type number [longest]byte

func numberOf(v int) number {
	var n number
	for i := range longest {
		n[longest-1-i] = byte(v >> (8 * i))
	}
	return n
}

// tooGreat says whether int has no room for it: 2^63 and above.
func (n number) tooGreat() bool {
	return n[0] > 127
}

func (n number) value() int {
	v := 0
	for _, b := range n {
		v = v<<8 | int(b)
	}
	return v
}

func sizeMayBe(size int) bool {
	return 1 <= size && size <= longest
}

// sheet has made beside its bytes, because a zero one is as good as nil, and one that a call has made may be without bytes, too.
type sheet struct {
	made bool
	list []byte
}

// add is for a number that fits.
func (s *sheet) add(v, size int) {
	n := numberOf(v)
	s.list = append(s.list, n[longest-size:]...)
}

// copyOf makes no spare room, in which a caller could meet another one.
func copyOf(b []byte) []byte {
	c := make([]byte, len(b))
	copy(c, b)
	return c
}

// Writer writes numbers and bytes, one behind the other.
type Writer struct{ sheet }

// Write has a writer without bytes.
func Write() *Writer {
	return &Writer{sheet{made: true}}
}

// Put writes a number in so many bytes.
func (w *Writer) Put(v, size int) api.Errno {
	if w == nil || !w.made {
		return api.ErrNil
	}
	if !sizeMayBe(size) {
		return api.ErrArg
	}
	if v < 0 || v>>(8*size) != 0 {
		return api.ErrRange
	}
	w.add(v, size)
	return api.OK
}

// Bytes writes bytes as they are.
func (w *Writer) Bytes(b []byte) api.Errno {
	if w == nil || !w.made {
		return api.ErrNil
	}
	w.list = append(w.list, b...)
	return api.OK
}

// Octets writes bytes behind how many they are.
func (w *Writer) Octets(b []byte) api.Errno {
	if w == nil || !w.made {
		return api.ErrNil
	}
	if len(b) > mostOctets {
		return api.ErrLimit
	}
	w.add(len(b), 2)
	w.list = append(w.list, b...)
	return api.OK
}

// Out is all that was written.
func (w *Writer) Out() []byte {
	if w == nil || !w.made {
		return nil
	}
	return copyOf(w.list)
}

// Reader reads them; its sheet has what is left.
type Reader struct{ sheet }

// New has a reader of b, from its first byte on.
func New(b []byte) *Reader {
	return &Reader{sheet{made: true, list: copyOf(b)}}
}

// Get reads a number of so many bytes.
func (r *Reader) Get(size int) (int, api.Errno) {
	if r == nil || !r.made {
		return 0, api.ErrNil
	}
	if !sizeMayBe(size) {
		return 0, api.ErrArg
	}
	if size > len(r.list) {
		return 0, api.ErrTrunc
	}
	var n number
	copy(n[longest-size:], r.list)
	if n.tooGreat() {
		return 0, api.ErrRange
	}
	r.list = r.list[size:]
	return n.value(), api.OK
}

// Bytes reads n bytes.
func (r *Reader) Bytes(n int) ([]byte, api.Errno) {
	if r == nil || !r.made {
		return nil, api.ErrNil
	}
	if n < 0 {
		return nil, api.ErrArg
	}
	if n > len(r.list) {
		return nil, api.ErrTrunc
	}
	b := copyOf(r.list[:n])
	r.list = r.list[n:]
	return b, api.OK
}

// Octets reads how many bytes there are, at most so many, and then them.
func (r *Reader) Octets(most int) (b []byte, e api.Errno) {
	if r == nil || !r.made {
		return nil, api.ErrNil
	}
	was := r.list
	defer func() {
		// Their length is read ahead of knowing whether they are there.
		if e != api.OK {
			r.list = was
		}
	}()
	n, e := r.Get(2)
	if e != api.OK {
		return nil, e
	}
	if n > most {
		return nil, api.ErrLimit
	}
	return r.Bytes(n)
}

// Left is how many bytes are left.
func (r *Reader) Left() int {
	if r == nil || !r.made {
		return 0
	}
	return len(r.list)
}

// End tells whether nothing is left.
func (r *Reader) End() api.Errno {
	if r == nil || !r.made {
		return api.ErrNil
	}
	if len(r.list) > 0 {
		return api.ErrSyntax
	}
	return api.OK
}
