package field_test

import (
	"math"
	"math/big"
	"math/rand"
	"slices"
	"testing"

	"causeway/field"
)

// p is 2^255 - 19, as a library that is not the program's has it.
var p = new(big.Int).Sub(power(255), big.NewInt(19))

func power(bit int) *big.Int {
	return new(big.Int).Lsh(big.NewInt(1), uint(bit))
}

func plus(x *big.Int, n int64) *big.Int {
	return new(big.Int).Add(x, big.NewInt(n))
}

// bytesOf are a number's 32, the lowest first.
func bytesOf(x *big.Int) [32]byte {
	var b [32]byte
	x.FillBytes(b[:])
	slices.Reverse(b[:])
	return b
}

func numberOf(b [32]byte) *big.Int {
	slices.Reverse(b[:])
	return new(big.Int).SetBytes(b[:])
}

func modulo(x *big.Int) *big.Int {
	return new(big.Int).Mod(x, p)
}

// elem is of any number, also below 0.
func elem(x *big.Int) field.Elem {
	return field.From(bytesOf(modulo(x)))
}

func same(t *testing.T, what string, got field.Elem, want *big.Int) {
	t.Helper()
	if n := numberOf(got.Bytes()); n.Cmp(want) != 0 {
		t.Errorf("%s: %x, not %x", what, n, want)
	}
	if got != field.From(bytesOf(want)) {
		t.Errorf("%s: not the element of %x", what, want)
	}
	if got.Zero() != (want.Sign() == 0) {
		t.Errorf("%s: Zero is %v of %x", what, got.Zero(), want)
	}
}

// turns are numbers below p at which something turns: near its ends, and near the ends of words and limbs of any length.
func turns() []*big.Int {
	var list []*big.Int
	for n := int64(0); n <= 40; n++ {
		list = append(list, big.NewInt(n), plus(p, -1-n))
	}
	for _, bit := range []int{8, 15, 16, 17, 25, 26, 31, 32, 51, 52, 63, 64, 65, 102, 127, 128, 153, 191, 192, 193, 204, 230, 252, 253, 254} {
		for _, n := range []int64{-19, -1, 0, 1, 19} {
			list = append(list, plus(power(bit), n))
			list = append(list, modulo(plus(new(big.Int).Sub(p, power(bit)), n)))
		}
	}
	half := new(big.Int).Rsh(p, 1)
	return append(list, half, plus(half, 1), plus(half, -1))
}

// anyNumber is below p; many have long rows of bits 0 or 1.
func anyNumber(d *rand.Rand) *big.Int {
	var b [32]byte
	d.Read(b[:])
	for range d.Intn(4) {
		from := d.Intn(32)
		fill := byte(-d.Intn(2))
		for i := from; i < from+d.Intn(33-from); i++ {
			b[i] = fill
		}
	}
	b[31] &= 127
	return modulo(numberOf(b))
}

func anyNumbers(seed int64, n int) []*big.Int {
	d := rand.New(rand.NewSource(seed))
	list := make([]*big.Int, n)
	for i := range list {
		list[i] = anyNumber(d)
	}
	return list
}

// P2.1

func TestP21FromAndBytes(t *testing.T) {
	for _, x := range append(turns(), anyNumbers(1, 2000)...) {
		b := bytesOf(x)
		e := field.From(b)
		same(t, "From", e, x)
		if e.Bytes() != b {
			t.Errorf("Bytes of %x", x)
		}
	}
}

func TestP21EachByteCounts(t *testing.T) {
	for bit := range 255 {
		var b [32]byte
		b[bit/8] = 1 << (bit % 8)
		same(t, "a bit", field.From(b), power(bit))
		same(t, "all others", field.From(bytesOf(new(big.Int).Xor(plus(power(255), -1), power(bit)))), modulo(new(big.Int).Xor(plus(power(255), -1), power(bit))))
	}
}

func TestP21TheHighestBitDoesNot(t *testing.T) {
	for _, x := range append(turns(), anyNumbers(2, 500)...) {
		same(t, "with the highest bit", field.From(bytesOf(new(big.Int).Add(x, power(255)))), x)
	}
}

// Just 19 numbers of 255 bits are p or above.
func TestP21FromBeyondP(t *testing.T) {
	for n := int64(-19); n < 19; n++ {
		x := plus(p, n)
		same(t, "near p", field.From(bytesOf(x)), modulo(x))
		same(t, "near p, with the highest bit", field.From(bytesOf(new(big.Int).Add(x, power(255)))), modulo(x))
		if numberOf(field.From(bytesOf(x)).Bytes()).Cmp(p) >= 0 {
			t.Errorf("bytes of p or above, of p + %d", n)
		}
	}
}

func TestP21Small(t *testing.T) {
	for n := range uint32(1000) {
		same(t, "Small", field.Small(n), big.NewInt(int64(n)))
	}
	for bit := range 32 {
		for _, n := range []uint32{1<<bit - 1, 1 << bit, 1<<bit + 1, math.MaxUint32 - 1<<bit, math.MaxUint32} {
			same(t, "Small", field.Small(n), big.NewInt(int64(n)))
		}
	}
}

func TestP21Zero(t *testing.T) {
	for name, e := range map[string]field.Elem{
		"a zero one":     {},
		"Small(0)":       field.Small(0),
		"of no bits":     field.From([32]byte{}),
		"of one too far": field.From([32]byte{31: 128}),
		"of p":           field.From(bytesOf(p)),
		"1 - 1":          field.Sub(field.Small(1), field.Small(1)),
		"p - 1 + 1":      field.Add(elem(big.NewInt(-1)), field.Small(1)),
		"x - x":          field.Sub(elem(power(200)), elem(power(200))),
		"x 0":            field.Mul(elem(power(200)), field.Elem{}),
	} {
		if !e.Zero() || e.Bytes() != [32]byte{} {
			t.Errorf("%s is not 0", name)
		}
	}
	for bit := range 255 {
		if elem(power(bit)).Zero() {
			t.Errorf("2^%d is 0", bit)
		}
	}
}

// P2.2

func calculates(t *testing.T, x, y *big.Int) {
	t.Helper()
	a, b := elem(x), elem(y)
	same(t, "Add", field.Add(a, b), modulo(new(big.Int).Add(x, y)))
	same(t, "Sub", field.Sub(a, b), modulo(new(big.Int).Sub(x, y)))
	same(t, "Mul", field.Mul(a, b), modulo(new(big.Int).Mul(x, y)))
}

func TestP22WhereItTurns(t *testing.T) {
	list := turns()
	for _, x := range list {
		for _, y := range list {
			calculates(t, x, y)
		}
	}
}

func TestP22Any(t *testing.T) {
	d := rand.New(rand.NewSource(3))
	for range 20000 {
		x := anyNumber(d)
		calculates(t, x, anyNumber(d))
		calculates(t, x, x)
	}
}

// What comes near a multiple of p from either side is hard to meet by chance.
func TestP22NearMultiples(t *testing.T) {
	d := rand.New(rand.NewSource(4))
	for range 300 {
		x := plus(new(big.Int).Rsh(anyNumber(d), uint(d.Intn(254))), 1)
		inverse := new(big.Int).ModInverse(modulo(x), p)
		if inverse == nil {
			continue
		}
		for n := int64(-20); n <= 20; n++ {
			sum := modulo(plus(new(big.Int).Neg(x), n))
			calculates(t, modulo(x), sum)
			calculates(t, modulo(x), modulo(plus(x, n)))
			calculates(t, modulo(x), modulo(new(big.Int).Mul(inverse, big.NewInt(n))))
		}
	}
}

// What is answered is worked on: it must be as good as what came from bytes.
func TestP22OneBehindTheOther(t *testing.T) {
	d := rand.New(rand.NewSource(5))
	list, want := make([]field.Elem, 4), make([]*big.Int, 4)
	for i := range list {
		want[i] = anyNumber(d)
		list[i] = elem(want[i])
	}
	for range 30000 {
		i, j, k := d.Intn(4), d.Intn(4), d.Intn(4)
		switch d.Intn(3) {
		case 0:
			list[k], want[k] = field.Add(list[i], list[j]), modulo(new(big.Int).Add(want[i], want[j]))
		case 1:
			list[k], want[k] = field.Sub(list[i], list[j]), modulo(new(big.Int).Sub(want[i], want[j]))
		case 2:
			list[k], want[k] = field.Mul(list[i], list[j]), modulo(new(big.Int).Mul(want[i], want[j]))
		}
		same(t, "behind others", list[k], want[k])
		if want[k].Sign() == 0 {
			want[k] = anyNumber(d)
			list[k] = elem(want[k])
		}
	}
}

func TestP22Inv(t *testing.T) {
	for _, x := range append(turns(), anyNumbers(6, 300)...) {
		same(t, "Inv", field.Inv(elem(x)), new(big.Int).Exp(x, plus(p, -2), p))
	}
}

// P2.3

func TestP23Swap(t *testing.T) {
	bits := []int{math.MinInt, math.MinInt + 1, -65536, -3, -2, -1, 0, 1, 2, 3, 4, 5, 254, 255, 256, 1 << 32, 1<<32 + 1, math.MaxInt - 1, math.MaxInt}
	list := append(turns(), anyNumbers(7, 50)...)
	for i, x := range list {
		y := list[len(list)-1-i]
		for _, bit := range bits {
			first, second := x, y
			if bit%2 != 0 {
				first, second = y, x
			}
			a, b := field.Swap(elem(x), elem(y), bit)
			same(t, "the first one", a, first)
			same(t, "the second one", b, second)
		}
	}
}

func TestP23SwapEachBit(t *testing.T) {
	zero := field.Elem{}
	for bit := range 255 {
		e := elem(power(bit))
		if a, b := field.Swap(e, zero, 1); a != zero || b != e {
			t.Errorf("2^%d is not swapped whole", bit)
		}
		if a, b := field.Swap(e, zero, 0); a != e || b != zero {
			t.Errorf("2^%d does not stay whole", bit)
		}
		if a, b := field.Swap(e, e, 1); a != e || b != e {
			t.Errorf("2^%d, swapped with itself", bit)
		}
	}
}

// P2.4

func laws(t *testing.T, a, b, c field.Elem) {
	t.Helper()
	zero, one := field.Elem{}, field.Small(1)
	for name, holds := range map[string]bool{
		"a + b = b + a":             field.Add(a, b) == field.Add(b, a),
		"a b = b a":                 field.Mul(a, b) == field.Mul(b, a),
		"(a + b) + c = a + (b + c)": field.Add(field.Add(a, b), c) == field.Add(a, field.Add(b, c)),
		"(a b) c = a (b c)":         field.Mul(field.Mul(a, b), c) == field.Mul(a, field.Mul(b, c)),
		"a (b + c) = a b + a c":     field.Mul(a, field.Add(b, c)) == field.Add(field.Mul(a, b), field.Mul(a, c)),
		"a (b - c) = a b - a c":     field.Mul(a, field.Sub(b, c)) == field.Sub(field.Mul(a, b), field.Mul(a, c)),
		"a - b + b = a":             field.Add(field.Sub(a, b), b) == a,
		"a - b = 0 - (b - a)":       field.Sub(a, b) == field.Sub(zero, field.Sub(b, a)),
		"a + 0 = a":                 field.Add(a, zero) == a,
		"a 1 = a":                   field.Mul(a, one) == a,
		"a 0 = 0":                   field.Mul(a, zero) == zero,
		"a - a = 0":                 field.Sub(a, a) == zero,
	} {
		if !holds {
			t.Errorf("not %s, of %x, %x, %x", name, a.Bytes(), b.Bytes(), c.Bytes())
		}
	}
}

func TestP24ItIsAField(t *testing.T) {
	list := turns()
	d := rand.New(rand.NewSource(8))
	for _, x := range list {
		laws(t, elem(x), elem(list[d.Intn(len(list))]), elem(list[d.Intn(len(list))]))
		laws(t, elem(x), elem(anyNumber(d)), elem(list[d.Intn(len(list))]))
	}
	for range 2000 {
		laws(t, elem(anyNumber(d)), elem(anyNumber(d)), elem(anyNumber(d)))
	}
}

func TestP24InvMakesOne(t *testing.T) {
	one := field.Small(1)
	for _, x := range append(turns(), anyNumbers(9, 300)...) {
		e := elem(x)
		inverse := field.Inv(e)
		if x.Sign() == 0 {
			same(t, "Inv(0)", inverse, x)
			continue
		}
		if field.Mul(e, inverse) != one || field.Mul(inverse, e) != one {
			t.Errorf("%x times its Inv is not 1", x)
		}
		if field.Inv(inverse) != e {
			t.Errorf("Inv of Inv of %x", x)
		}
	}
}

// P2.5

func TestP25FromOfBytes(t *testing.T) {
	d := rand.New(rand.NewSource(10))
	list := append(turns(), anyNumbers(11, 300)...)
	for _, x := range list {
		a, b := elem(x), elem(list[d.Intn(len(list))])
		c, e := field.Swap(a, b, d.Intn(2))
		for name, got := range map[string]field.Elem{
			"From": a, "Add": field.Add(a, b), "Sub": field.Sub(a, b), "Mul": field.Mul(a, b), "Inv": field.Inv(a), "Swap's first": c, "Swap's second": e, "Small": field.Small(d.Uint32()),
		} {
			if field.From(got.Bytes()) != got {
				t.Errorf("%s: From of Bytes is another element", name)
			}
			b := got.Bytes()
			if numberOf(b).Cmp(p) >= 0 {
				t.Errorf("%s: bytes of p or above", name)
			}
			b[31] |= 128
			if field.From(b) != got {
				t.Errorf("%s: another element with the highest bit", name)
			}
		}
	}
}

func TestP25TheSameJustIfBytesAre(t *testing.T) {
	list := append(turns(), anyNumbers(12, 50)...)
	for _, x := range list {
		for _, y := range list {
			a, b := elem(x), elem(y)
			are := x.Cmp(y) == 0
			if (a == b) != are || (a.Bytes() == b.Bytes()) != are || field.Sub(a, b).Zero() != are {
				t.Errorf("%x, %x", x, y)
			}
		}
	}
}

// A number that is come to on many ways is one element.
func TestP25OnManyWays(t *testing.T) {
	for _, x := range append(turns(), anyNumbers(13, 300)...) {
		e := elem(x)
		one, minus := field.Small(1), elem(big.NewInt(-1))
		for name, got := range map[string]field.Elem{
			"x + 1 - 1":        field.Sub(field.Add(e, one), one),
			"x - 1 + 1":        field.Add(field.Sub(e, one), one),
			"x + (p - 1) + 1":  field.Add(field.Add(e, minus), one),
			"0 - (0 - x)":      field.Sub(field.Elem{}, field.Sub(field.Elem{}, e)),
			"x (p - 1)(p - 1)": field.Mul(field.Mul(e, minus), minus),
			"2 x - x":          field.Sub(field.Mul(field.Small(2), e), e),
		} {
			if got != e || got.Bytes() != e.Bytes() {
				t.Errorf("%s is not x, of %x", name, x)
			}
		}
	}
}

// R2: the same again, whatever was called ahead, and what is handed in stays as it is.
func TestR2TheSameAgain(t *testing.T) {
	d := rand.New(rand.NewSource(14))
	for range 300 {
		x, y := anyNumber(d), anyNumber(d)
		in := bytesOf(x)
		a, b := field.From(in), elem(y)
		if in != bytesOf(x) {
			t.Error("From's bytes were changed")
		}
		first := field.Add(field.Mul(a, b), field.Inv(field.Sub(a, b)))
		out := a.Bytes()
		out[0] ^= 255
		field.Swap(a, b, 1)
		if field.Add(field.Mul(a, b), field.Inv(field.Sub(a, b))) != first {
			t.Error("another answer the second time")
		}
		same(t, "what was handed in", a, x)
		same(t, "what was handed in", b, y)
	}
}

// The chapter's examples.

// filled has bytes ff between its first and its last one.
func filled(first, last byte) [32]byte {
	var b [32]byte
	for i := range b {
		b[i] = 255
	}
	b[0], b[31] = first, last
	return b
}

func TestExamples(t *testing.T) {
	zero, one, last := filled(0xed, 0x7f), field.Small(1), field.From(filled(0xec, 0x7f))
	for _, c := range []struct {
		call string
		got  field.Elem
		want [32]byte
	}{
		{"From(ed ff .. ff 7f)", field.From(zero), [32]byte{}},
		{"From(ec ff .. ff 7f)", last, filled(0xec, 0x7f)},
		{"From(ff .. ff)", field.From(filled(0xff, 0xff)), [32]byte{18}},
		{"Add(p - 1, 1)", field.Add(last, one), [32]byte{}},
		{"Sub(0, 1)", field.Sub(field.Small(0), one), filled(0xec, 0x7f)},
		{"Mul(p - 1, p - 1)", field.Mul(last, last), [32]byte{1}},
		{"Inv(1)", field.Inv(one), [32]byte{1}},
		{"Inv(0)", field.Inv(field.Small(0)), [32]byte{}},
		{"Inv(2)", field.Inv(field.Small(2)), filled(0xf7, 0x3f)},
	} {
		if c.got.Bytes() != c.want {
			t.Errorf("%s: %x, not %x", c.call, c.got.Bytes(), c.want)
		}
	}
}
