package wire_test

import (
	"bytes"
	"math"
	"math/rand"
	"slices"
	"testing"

	"causeway/api"
	"causeway/wire"
)

// ints are those at which something turns, and wild ones.
var ints = []int{math.MinInt, math.MinInt + 1, -65536, -256, -9, -8, -2, -1, 0, 1, 2, 3, 4, 7, 8, 9, 10, 63, 64, 127, 128, 255, 256, 65535, 65536, math.MaxInt - 1, math.MaxInt}

func hold(t *testing.T, what string, got, want any) {
	t.Helper()
	if got != want {
		t.Errorf("%s: %v, not %v", what, got, want)
	}
}

func same(t *testing.T, what string, got, want []byte) {
	t.Helper()
	if !bytes.Equal(got, want) {
		t.Errorf("%s: % x, not % x", what, got, want)
	}
}

// shown reads all that is left, to see what it was.
func shown(t *testing.T, r *wire.Reader) []byte {
	t.Helper()
	n := r.Left()
	b, e := r.Bytes(n)
	if e != api.OK || len(b) != n || r.Left() != 0 {
		t.Errorf("what is left: %d of %d bytes, %d", len(b), n, e)
	}
	return b
}

// count makes n bytes that differ from their neighbours.
func count(n int) []byte {
	b := make([]byte, n)
	for i := range b {
		b[i] = byte(i*7 + i>>8 + 1)
	}
	return b
}

func put(t *testing.T, v, size int) []byte {
	t.Helper()
	w := wire.Write()
	if e := w.Put(v, size); e != api.OK {
		t.Fatalf("Put(%d, %d): %d", v, size, e)
	}
	return w.Out()
}

// P1.1

func TestP11WriteHasNoBytes(t *testing.T) {
	w := wire.Write()
	if w == nil {
		t.Fatal("no writer")
	}
	hold(t, "Out", len(w.Out()), 0)
	hold(t, "Put", w.Put(1, 1), api.OK)
	same(t, "Out", w.Out(), []byte{1})
	hold(t, "another one", len(wire.Write().Out()), 0)
}

func TestP11NoWriter(t *testing.T) {
	for name, w := range map[string]*wire.Writer{"nil": nil, "zero": {}} {
		for _, v := range ints {
			for _, size := range ints {
				hold(t, name+": Put", w.Put(v, size), api.ErrNil)
			}
		}
		for _, n := range []int{0, 1, 65535, 65536} {
			hold(t, name+": Bytes", w.Bytes(make([]byte, n)), api.ErrNil)
			hold(t, name+": Octets", w.Octets(make([]byte, n)), api.ErrNil)
		}
		hold(t, name+": Bytes(nil)", w.Bytes(nil), api.ErrNil)
		hold(t, name+": Octets(nil)", w.Octets(nil), api.ErrNil)
		hold(t, name+": Out", len(w.Out()), 0)
	}
}

func TestP11NoReader(t *testing.T) {
	for name, r := range map[string]*wire.Reader{"nil": nil, "zero": {}} {
		for _, n := range ints {
			v, e := r.Get(n)
			hold(t, name+": Get", e, api.ErrNil)
			hold(t, name+": Get's number", v, 0)
			b, e := r.Bytes(n)
			hold(t, name+": Bytes", e, api.ErrNil)
			hold(t, name+": Bytes' bytes", len(b), 0)
			b, e = r.Octets(n)
			hold(t, name+": Octets", e, api.ErrNil)
			hold(t, name+": Octets' bytes", len(b), 0)
		}
		hold(t, name+": Left", r.Left(), 0)
		hold(t, name+": End", r.End(), api.ErrNil)
	}
}

// A reader without bytes is a reader.
func TestP11EmptyIsNotNone(t *testing.T) {
	for _, b := range [][]byte{nil, {}} {
		r := wire.New(b)
		hold(t, "Left", r.Left(), 0)
		hold(t, "End", r.End(), api.OK)
		_, e := r.Get(1)
		hold(t, "Get", e, api.ErrTrunc)
		_, e = r.Bytes(0)
		hold(t, "Bytes(0)", e, api.OK)
		_, e = r.Octets(0)
		hold(t, "Octets", e, api.ErrTrunc)
	}
	r := wire.New([]byte{5})
	r.Get(1)
	hold(t, "End behind the last byte", r.End(), api.OK)
}

// P1.2

func TestP12PutAtBothEndsOfEachSize(t *testing.T) {
	for size := 1; size <= 8; size++ {
		same(t, "0", put(t, 0, size), make([]byte, size))
		one := make([]byte, size)
		one[size-1] = 1
		same(t, "1", put(t, 1, size), one)
		greatest := math.MaxInt
		want := bytes.Repeat([]byte{255}, size)
		if size < 8 {
			greatest = 1<<(8*size) - 1
			w := wire.Write()
			for _, v := range []int{greatest + 1, greatest + 2, math.MaxInt} {
				hold(t, "above the greatest one", w.Put(v, size), api.ErrRange)
			}
			hold(t, "bytes of those", len(w.Out()), 0)
		} else {
			want[0] = 127
		}
		same(t, "the greatest one", put(t, greatest, size), want)
	}
}

func TestP12PutPlacesEachByte(t *testing.T) {
	for size := 1; size <= 8; size++ {
		for place := range size {
			want := make([]byte, size)
			want[size-1-place] = 0x45
			same(t, "one byte", put(t, 0x45<<(8*place), size), want)
		}
	}
	same(t, "eight bytes", put(t, 0x0123456789ABCDEF, 8), []byte{1, 0x23, 0x45, 0x67, 0x89, 0xAB, 0xCD, 0xEF})
	same(t, "five bytes", put(t, 0x0123456789, 5), []byte{1, 0x23, 0x45, 0x67, 0x89})
}

func TestP12PutRefuses(t *testing.T) {
	w := wire.Write()
	w.Put(6, 1)
	for _, v := range ints {
		for _, size := range ints {
			want := api.OK
			switch {
			case size < 1 || size > 8:
				want = api.ErrArg
			case v < 0 || size < 8 && v >= 1<<(8*size):
				want = api.ErrRange
			}
			was := w.Out()
			hold(t, "Put", w.Put(v, size), want)
			if want != api.OK {
				same(t, "nothing written", w.Out(), was)
			} else {
				hold(t, "bytes written", len(w.Out()), len(was)+size)
			}
		}
	}
}

func TestP12BytesAsTheyAre(t *testing.T) {
	w := wire.Write()
	var all []byte
	for _, n := range []int{0, 1, 2, 7, 8, 9, 65535, 65536, 65537, 200000} {
		b := count(n)
		hold(t, "Bytes", w.Bytes(b), api.OK)
		all = append(all, b...)
	}
	hold(t, "Bytes(nil)", w.Bytes(nil), api.OK)
	if !bytes.Equal(w.Out(), all) {
		t.Error("not all, in this order")
	}
}

func TestP12OctetsBehindTheirLength(t *testing.T) {
	for _, n := range []int{0, 1, 2, 255, 256, 257, 4096, 65534, 65535} {
		w := wire.Write()
		w.Put(9, 1)
		hold(t, "Octets", w.Octets(count(n)), api.OK)
		if want := append([]byte{9, byte(n >> 8), byte(n)}, count(n)...); !bytes.Equal(w.Out(), want) {
			t.Errorf("octets of %d bytes", n)
		}
	}
	w := wire.Write()
	hold(t, "Octets(nil)", w.Octets(nil), api.OK)
	same(t, "Octets(nil)", w.Out(), []byte{0, 0})
}

func TestP12OctetsTooLong(t *testing.T) {
	w := wire.Write()
	w.Put(9, 1)
	for _, n := range []int{65536, 65537, 131072, 1 << 20} {
		hold(t, "Octets", w.Octets(make([]byte, n)), api.ErrLimit)
		same(t, "nothing written", w.Out(), []byte{9})
	}
}

func TestP12OutAgainAndAgain(t *testing.T) {
	w := wire.Write()
	w.Put(1, 1)
	same(t, "Out", w.Out(), []byte{1})
	same(t, "Out again", w.Out(), []byte{1})
	w.Octets([]byte{2})
	same(t, "Out behind more", w.Out(), []byte{1, 0, 1, 2})
}

// P1.3

func TestP13ReadsFromTheFirstByteOn(t *testing.T) {
	r := wire.New([]byte{1, 2, 3, 4, 5, 6})
	v, e := r.Get(1)
	hold(t, "Get(1)", e, api.OK)
	hold(t, "Get(1)", v, 1)
	v, _ = r.Get(2)
	hold(t, "Get(2)", v, 0x0203)
	v, _ = r.Get(3)
	hold(t, "Get(3)", v, 0x040506)
	hold(t, "End", r.End(), api.OK)
}

func TestP13GetOfEachSize(t *testing.T) {
	b := []byte{1, 0x23, 0x45, 0x67, 0x89, 0xAB, 0xCD, 0xEF, 0x77}
	for size := 1; size <= 8; size++ {
		r := wire.New(b)
		v, e := r.Get(size)
		hold(t, "Get", e, api.OK)
		hold(t, "the number", v, 0x0123456789ABCDEF>>(64-8*size))
		hold(t, "Left", r.Left(), 9-size)
		same(t, "what is left", shown(t, r), b[size:])
	}
	for size := 1; size < 8; size++ {
		v, e := wire.New(bytes.Repeat([]byte{255}, size)).Get(size)
		hold(t, "the greatest one", e, api.OK)
		hold(t, "the greatest one", v, 1<<(8*size)-1)
	}
}

func TestP13GetRefuses(t *testing.T) {
	for n := range 10 {
		for _, size := range ints {
			b := bytes.Repeat([]byte{3}, n)
			r := wire.New(b)
			want := api.OK
			switch {
			case size < 1 || size > 8:
				want = api.ErrArg
			case size > n:
				want = api.ErrTrunc
			}
			v, e := r.Get(size)
			hold(t, "Get", e, want)
			if want != api.OK {
				hold(t, "no number", v, 0)
				same(t, "nothing read", shown(t, r), b)
			}
		}
	}
}

func TestP13GetAboveTheGreatest(t *testing.T) {
	for _, c := range []struct {
		b []byte
		v int
		e api.Errno
	}{
		{[]byte{127, 255, 255, 255, 255, 255, 255, 255}, math.MaxInt, api.OK},
		{[]byte{127, 255, 255, 255, 255, 255, 255, 254}, math.MaxInt - 1, api.OK},
		{[]byte{128, 0, 0, 0, 0, 0, 0, 0}, 0, api.ErrRange},
		{[]byte{128, 0, 0, 0, 0, 0, 0, 1}, 0, api.ErrRange},
		{[]byte{255, 255, 255, 255, 255, 255, 255, 255}, 0, api.ErrRange},
	} {
		r := wire.New(c.b)
		v, e := r.Get(8)
		hold(t, "Get(8)", e, c.e)
		hold(t, "the number", v, c.v)
		if c.e != api.OK {
			same(t, "nothing read", shown(t, r), c.b)
			_, e = wire.New(c.b[:7]).Get(8)
			hold(t, "one byte too few", e, api.ErrTrunc)
			v, e = wire.New(c.b).Get(7)
			hold(t, "in seven bytes", e, api.OK)
			hold(t, "in seven bytes", v > 1<<55-1, true)
		}
	}
}

func TestP13Bytes(t *testing.T) {
	for n := range 10 {
		for _, m := range append(slices.Clone(ints), n-1, n, n+1) {
			b := count(n)
			r := wire.New(b)
			want := api.OK
			switch {
			case m < 0:
				want = api.ErrArg
			case m > n:
				want = api.ErrTrunc
			}
			got, e := r.Bytes(m)
			hold(t, "Bytes", e, want)
			if want == api.OK {
				same(t, "the bytes", got, b[:m])
				same(t, "what is left", shown(t, r), b[m:])
			} else {
				hold(t, "no bytes", len(got), 0)
				same(t, "nothing read", shown(t, r), b)
			}
		}
	}
}

func TestP13Octets(t *testing.T) {
	for _, c := range []struct {
		b    []byte
		most int
		want []byte
		e    api.Errno
	}{
		{nil, 9, nil, api.ErrTrunc},
		{nil, -1, nil, api.ErrTrunc},
		{[]byte{0}, 9, nil, api.ErrTrunc},
		{[]byte{255}, 0, nil, api.ErrTrunc},
		{[]byte{0, 0}, 0, []byte{}, api.OK},
		{[]byte{0, 0}, -1, nil, api.ErrLimit},
		{[]byte{0, 0}, math.MinInt, nil, api.ErrLimit},
		{[]byte{0, 0}, math.MaxInt, []byte{}, api.OK},
		{[]byte{0, 1}, 1, nil, api.ErrTrunc},
		{[]byte{0, 1}, 0, nil, api.ErrLimit},
		{[]byte{0, 1, 7}, 1, []byte{7}, api.OK},
		{[]byte{0, 1, 7}, 0, nil, api.ErrLimit},
		{[]byte{0, 3, 7, 8}, 3, nil, api.ErrTrunc},
		{[]byte{0, 3, 7, 8}, 2, nil, api.ErrLimit},
		{[]byte{0, 3, 7, 8, 9}, 3, []byte{7, 8, 9}, api.OK},
		{[]byte{0, 3, 7, 8, 9, 10}, 4, []byte{7, 8, 9}, api.OK},
		{[]byte{1, 0, 7, 8}, 255, nil, api.ErrLimit},
		{[]byte{1, 0, 7, 8}, 256, nil, api.ErrTrunc},
		{[]byte{255, 255, 7}, 65535, nil, api.ErrTrunc},
		{[]byte{255, 255, 7}, 65534, nil, api.ErrLimit},
	} {
		r := wire.New(c.b)
		got, e := r.Octets(c.most)
		hold(t, "Octets", e, c.e)
		same(t, "the bytes", got, c.want)
		left := c.b
		if c.e == api.OK {
			left = c.b[2+len(c.want):]
		}
		hold(t, "Left", r.Left(), len(left))
		same(t, "what is left", shown(t, r), left)
	}
}

func TestP13OctetsOfTheGreatestLength(t *testing.T) {
	b := append([]byte{255, 255}, count(65535)...)
	r := wire.New(b)
	if got, e := r.Octets(65535); e != api.OK || !bytes.Equal(got, b[2:]) || r.End() != api.OK {
		t.Errorf("%d bytes, %d", len(got), e)
	}
	r = wire.New(b[:65536])
	if got, e := r.Octets(65535); e != api.ErrTrunc || len(got) != 0 || r.Left() != 65536 {
		t.Errorf("one byte too few: %d bytes, %d, left %d", len(got), e, r.Left())
	}
}

func TestP13LeftAndEnd(t *testing.T) {
	r := wire.New([]byte{1, 2})
	for _, left := range []int{2, 1, 0} {
		want := api.ErrSyntax
		if left == 0 {
			want = api.OK
		}
		for range 2 {
			hold(t, "Left", r.Left(), left)
			hold(t, "End", r.End(), want)
		}
		r.Get(1)
	}
}

// P1.4

func TestP14WriterKeepsNothing(t *testing.T) {
	for name, write := range map[string]func(*wire.Writer, []byte) api.Errno{"Bytes": (*wire.Writer).Bytes, "Octets": (*wire.Writer).Octets} {
		room := []byte{1, 2, 3, 4, 5, 6, 7, 8}
		w := wire.Write()
		write(w, room[:2])
		was := w.Out()
		w.Put(255, 1)
		w.Bytes([]byte{254, 253})
		same(t, name+": what was handed in, and its spare room", room, []byte{1, 2, 3, 4, 5, 6, 7, 8})
		room[0] = 99
		same(t, name+": changed later", w.Out()[:len(was)], was)
	}
}

func TestP14OutIsNew(t *testing.T) {
	w := wire.Write()
	w.Bytes([]byte{1, 2, 3})
	a, b := w.Out(), w.Out()
	_ = append(a, 77)
	a[0] = 99
	same(t, "another answer", b, []byte{1, 2, 3})
	same(t, "the writer", w.Out(), []byte{1, 2, 3})
	w.Bytes([]byte{4})
	_ = append(b, 66)
	same(t, "behind more", w.Out(), []byte{1, 2, 3, 4})
	same(t, "an answer of before", b, []byte{1, 2, 3})
	w.Bytes(w.Out())
	same(t, "its own bytes", w.Out(), []byte{1, 2, 3, 4, 1, 2, 3, 4})
}

func TestP14ReaderKeepsNothing(t *testing.T) {
	b := []byte{0, 2, 5, 6, 7, 8}
	r := wire.New(b[:5])
	for i := range b {
		b[i] = 99
	}
	got, _ := r.Octets(2)
	same(t, "octets", got, []byte{5, 6})
	got[0] = 55
	same(t, "what is left", shown(t, r), []byte{7})
	same(t, "what was handed in", b, bytes.Repeat([]byte{99}, 6))
}

func TestP14WhatIsReadIsNew(t *testing.T) {
	b := []byte{0, 2, 5, 6, 7, 8, 9}
	r := wire.New(b)
	x, _ := r.Octets(2)
	_ = append(x, 77, 77, 77)
	y, _ := r.Bytes(1)
	_ = append(y, 66, 66)
	same(t, "octets", x, []byte{5, 6})
	same(t, "bytes", y, []byte{7})
	z, _ := r.Bytes(2)
	same(t, "what was left", z, []byte{8, 9})
	x[0], y[0], z[0] = 1, 2, 3
	same(t, "what was handed in", b, []byte{0, 2, 5, 6, 7, 8, 9})
}

// P1.5

// Any calls, held against lists that are kept by hand.
func TestP15WriterGrowsAtItsEnd(t *testing.T) {
	d := rand.New(rand.NewSource(1))
	for range 200 {
		w := wire.Write()
		var want []byte
		for range 40 {
			switch d.Intn(3) {
			case 0:
				v, size := int(d.Uint64()>>d.Intn(64)), d.Intn(11)-1
				if w.Put(v, size) != api.OK {
					break
				}
				for i := size - 1; i >= 0; i-- {
					want = append(want, byte(v>>(8*i)))
				}
			case 1:
				b := count(d.Intn(20))
				hold(t, "Bytes", w.Bytes(b), api.OK)
				want = append(want, b...)
			case 2:
				b := make([]byte, d.Intn(20)+d.Intn(8)/7*65530)
				if w.Octets(b) != api.OK {
					hold(t, "more than 65535 bytes", len(b) > 65535, true)
					break
				}
				want = append(append(want, byte(len(b)>>8), byte(len(b))), b...)
			}
			if !bytes.Equal(w.Out(), want) {
				t.Fatal("not what was there, and the new bytes behind it")
			}
		}
	}
}

func TestP15ReaderShrinksInFront(t *testing.T) {
	d := rand.New(rand.NewSource(2))
	for range 2000 {
		b := make([]byte, d.Intn(40))
		for i := range b {
			b[i] = byte(d.Intn(256) >> d.Intn(9))
		}
		r, left := wire.New(b), b
		for range 20 {
			n := d.Intn(12) - 1
			took := 0
			switch d.Intn(3) {
			case 0:
				if _, e := r.Get(n); e == api.OK {
					took = n
				}
			case 1:
				if got, e := r.Bytes(n); e == api.OK {
					took = n
					same(t, "bytes", got, left[:n])
				}
			case 2:
				if got, e := r.Octets(n); e == api.OK {
					took = 2 + len(got)
					same(t, "octets", got, left[2:took])
				}
			}
			left = left[took:]
			if r.Left() != len(left) || (r.End() == api.OK) != (len(left) == 0) {
				t.Fatalf("left %d, not %d", r.Left(), len(left))
			}
		}
		same(t, "what is left", shown(t, r), left)
	}
}

// P1.6

func TestP16BytesAreOfJustOneNumber(t *testing.T) {
	for size := 1; size <= 2; size++ {
		seen := map[int]bool{}
		for v := range 1 << (8 * size) {
			b := []byte{byte(v >> 8), byte(v)}[2-size:]
			got, e := wire.New(b).Get(size)
			if e != api.OK || seen[got] || !bytes.Equal(put(t, got, size), b) {
				t.Fatalf("% x: %d, %d", b, got, e)
			}
			seen[got] = true
		}
	}
	d := rand.New(rand.NewSource(3))
	for range 20000 {
		size := 1 + d.Intn(8)
		b := make([]byte, size)
		d.Read(b)
		if size == 8 {
			b[0] &= 127
		}
		v, e := wire.New(b).Get(size)
		hold(t, "Get", e, api.OK)
		same(t, "Put of it", put(t, v, size), b)
	}
}

func TestP16NumbersThereAndBack(t *testing.T) {
	for size := 1; size <= 8; size++ {
		for bit := range 8*size - size/8 {
			for _, v := range []int{1 << bit, 1<<bit - 1, 1<<bit + (1<<bit - 1)} {
				r := wire.New(put(t, v, size))
				got, e := r.Get(size)
				hold(t, "Get", e, api.OK)
				hold(t, "the number", got, v)
				hold(t, "End", r.End(), api.OK)
			}
		}
	}
}

// P1.7

func counted(b []byte) []byte {
	b = slices.Clone(b)
	i := len(b) - 1
	for ; b[i] == 255; i-- {
		b[i] = 0
	}
	b[i]++
	return b
}

func TestP17TheNextNumber(t *testing.T) {
	d := rand.New(rand.NewSource(4))
	for size := 1; size <= 8; size++ {
		greatest := math.MaxInt
		if size < 8 {
			greatest = 1<<(8*size) - 1
		}
		list := []int{0, 1, 254, greatest - 1}
		for k := 1; k < size; k++ {
			list = append(list, 1<<(8*k)-2, 1<<(8*k)-1, 1<<(8*k), 1<<(8*k+1)-1, 0x41<<(8*k)-1)
		}
		for range 300 {
			list = append(list, d.Intn(greatest))
		}
		for _, v := range list {
			same(t, "the next one", put(t, v+1, size), counted(put(t, v, size)))
		}
	}
}

// P1.8

func TestP18OctetsWithinOctets(t *testing.T) {
	for _, inner := range [][]byte{nil, {0}, {0, 0}, {255, 255}, count(300), count(65000)} {
		const deep = 200
		b := inner
		for range deep {
			w := wire.Write()
			hold(t, "Octets", w.Octets(b), api.OK)
			b = w.Out()
		}
		for range deep {
			r := wire.New(b)
			got, e := r.Octets(65535)
			hold(t, "Octets", e, api.OK)
			hold(t, "End", r.End(), api.OK)
			b = got
		}
		if !bytes.Equal(b, inner) {
			t.Errorf("octets of %d bytes come out as %d", len(inner), len(b))
		}
	}
}

func TestP18UpToTheGreatestLength(t *testing.T) {
	w := wire.Write()
	hold(t, "the inner ones", w.Octets(count(65533)), api.OK)
	whole := wire.Write()
	hold(t, "the outer ones", whole.Octets(w.Out()), api.OK)
	hold(t, "once more", wire.Write().Octets(whole.Out()), api.ErrLimit)
	outer, _ := wire.New(whole.Out()).Octets(65535)
	if inner, e := wire.New(outer).Octets(65533); e != api.OK || !bytes.Equal(inner, count(65533)) {
		t.Errorf("%d bytes, %d", len(inner), e)
	}
}

func TestP18OctetsBesideOthers(t *testing.T) {
	d := rand.New(rand.NewSource(5))
	for range 300 {
		var lists [][]byte
		w := wire.Write()
		for range d.Intn(6) {
			b := make([]byte, d.Intn(300))
			d.Read(b)
			lists = append(lists, b)
			w.Octets(b)
		}
		outer := wire.Write()
		outer.Put(len(lists), 1)
		outer.Octets(w.Out())
		r := wire.New(outer.Out())
		n, _ := r.Get(1)
		b, e := r.Octets(65535)
		hold(t, "the outer ones", e, api.OK)
		hold(t, "End", r.End(), api.OK)
		r = wire.New(b)
		for i := range n {
			got, e := r.Octets(300)
			hold(t, "the inner ones", e, api.OK)
			same(t, "the inner ones", got, lists[i])
		}
		hold(t, "End", r.End(), api.OK)
	}
}

// R1: nothing panics, and all ends.
func TestR1WildArguments(t *testing.T) {
	for _, n := range ints {
		for _, m := range ints {
			w, r := wire.Write(), wire.New([]byte{255, 255, 0, 1, 128})
			w.Put(n, m)
			r.Get(n)
			r.Bytes(m)
			r.Octets(n)
			r.Octets(m)
			if len(w.Out()) > 8 || r.Left() > 5 {
				t.Error("too much")
			}
		}
	}
}

// R2: writers and readers do not touch each other.
func TestR2EachOnItsOwn(t *testing.T) {
	b := []byte{1, 2, 3, 4}
	v, w := wire.Write(), wire.Write()
	r, s := wire.New(b), wire.New(b)
	for i := range 4 {
		v.Put(i, 1)
		w.Put(9-i, 1)
		x, _ := r.Get(1)
		hold(t, "one reader", x, i+1)
		hold(t, "the other one", s.Left(), 4)
	}
	same(t, "one writer", v.Out(), []byte{0, 1, 2, 3})
	same(t, "the other one", w.Out(), []byte{9, 8, 7, 6})
	same(t, "the other reader", shown(t, s), b)
}

// R3: the chapter has a size that may not be ahead of a number that does not fit.
func TestR3SizeAheadOfNumber(t *testing.T) {
	hold(t, "Put(-1, 0)", wire.Write().Put(-1, 0), api.ErrArg)
	hold(t, "Put(-1, 9)", wire.Write().Put(-1, 9), api.ErrArg)
	_, e := wire.New(nil).Get(9)
	hold(t, "Get(9) of nothing", e, api.ErrArg)
	_, e = wire.New(nil).Bytes(-1)
	hold(t, "Bytes(-1) of nothing", e, api.ErrArg)
	_, e = wire.New([]byte{0, 9}).Octets(3)
	hold(t, "too many, and not there", e, api.ErrLimit)
}

// The chapter's examples.

func TestExamplesOfWriting(t *testing.T) {
	same(t, "Put(4660, 2)", put(t, 4660, 2), []byte{0x12, 0x34})
	same(t, "Put(4660, 3)", put(t, 4660, 3), []byte{0, 0x12, 0x34})
	same(t, "Put(2^63 - 2, 8)", put(t, 1<<63-2, 8), []byte{0x7F, 255, 255, 255, 255, 255, 255, 0xFE})
	w := wire.Write()
	hold(t, "Put(4660, 1)", w.Put(4660, 1), api.ErrRange)
	hold(t, "Put(-9, 4)", w.Put(-9, 4), api.ErrRange)
	hold(t, "Put(3, -1)", w.Put(3, -1), api.ErrArg)
	hold(t, "Put(3, 12)", w.Put(3, 12), api.ErrArg)
	hold(t, "bytes of those", len(w.Out()), 0)
	w.Octets([]byte{0x77})
	w.Bytes([]byte{0x77, 0x88})
	w.Octets(nil)
	same(t, "Octets, Bytes, Octets", w.Out(), []byte{0, 1, 0x77, 0x77, 0x88, 0, 0})
}

func TestExamplesOfReading(t *testing.T) {
	r := wire.New([]byte{0x12, 0x34, 0x56})
	a, _ := r.Get(1)
	b, _ := r.Get(2)
	_, e := r.Get(1)
	hold(t, "Get(1)", a, 18)
	hold(t, "Get(2)", b, 13398)
	hold(t, "Get(1) of nothing", e, api.ErrTrunc)

	r = wire.New([]byte{0x80, 0, 0, 0, 0, 0, 0, 0})
	_, e = r.Get(8)
	hold(t, "Get(8)", e, api.ErrRange)
	hold(t, "Left", r.Left(), 8)

	r = wire.New([]byte{0, 3, 0x77, 0x88})
	_, e = r.Octets(3)
	hold(t, "Octets(3)", e, api.ErrTrunc)
	_, e = r.Octets(2)
	hold(t, "Octets(2)", e, api.ErrLimit)
	all, e := r.Bytes(4)
	hold(t, "Bytes(4)", e, api.OK)
	same(t, "Bytes(4)", all, []byte{0, 3, 0x77, 0x88})
	hold(t, "End", r.End(), api.OK)
}
