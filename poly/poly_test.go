package poly_test

import (
	"bytes"
	"encoding/hex"
	"math/big"
	"math/rand"
	"slices"
	"strings"
	"testing"

	"causeway/api"
	"causeway/poly"
)

// lengths are those at which a block begins or ends, and some between.
var lengths = []int{0, 1, 2, 7, 8, 9, 14, 15, 16, 17, 18, 30, 31, 32, 33, 34, 47, 48, 49, 63, 64, 65, 100}

func unhex(t testing.TB, text string) []byte {
	t.Helper()
	b, err := hex.DecodeString(strings.ReplaceAll(text, " ", ""))
	if err != nil {
		t.Fatal(err)
	}
	return b
}

func anyBytes(d *rand.Rand, n int) []byte {
	b := make([]byte, n)
	d.Read(b)
	return b
}

func anyKey(d *rand.Rand) api.Key {
	return api.Key(anyBytes(d, 32))
}

// keyOf has these as its first bytes and its last ones, noughts behind each.
func keyOf(r, s []byte) (key api.Key) {
	copy(key[:16], r)
	copy(key[16:], s)
	return key
}

func filled(with byte, n int) []byte {
	return bytes.Repeat([]byte{with}, n)
}

func power(bit uint) *big.Int {
	return new(big.Int).Lsh(big.NewInt(1), bit)
}

// prime is P.
func prime() *big.Int {
	return new(big.Int).Sub(power(130), big.NewInt(5))
}

// numberOf is that of bytes, the lowest first.
func numberOf(b []byte) *big.Int {
	b = bytes.Clone(b)
	slices.Reverse(b)
	return new(big.Int).SetBytes(b)
}

// bytesOf is n modulo 2^128, the lowest byte first.
func bytesOf(n *big.Int) []byte {
	b := new(big.Int).Mod(n, power(128)).FillBytes(make([]byte, 16))
	slices.Reverse(b)
	return b
}

func rOf(key api.Key) *big.Int {
	r := key[:16]
	for _, i := range []int{3, 7, 11, 15} {
		r[i] &= 0x0f
	}
	for _, i := range []int{4, 8, 12} {
		r[i] &= 0xfc
	}
	return numberOf(r)
}

// sumOf is that of all blocks, modulo P.
func sumOf(r *big.Int, b []byte) *big.Int {
	sum := new(big.Int)
	for block := range slices.Chunk(b, 16) {
		sum.Add(sum, numberOf(append(bytes.Clone(block), 1)))
		sum.Mod(sum.Mul(sum, r), prime())
	}
	return sum
}

// expected is the tag, as the chapter tells it, in numbers of any size.
func expected(key api.Key, b []byte) []byte {
	sum := sumOf(rOf(key), b)
	return bytesOf(sum.Add(sum, numberOf(key[16:])))
}

func same(t testing.TB, what string, got, want []byte) {
	t.Helper()
	if !bytes.Equal(got, want) {
		t.Errorf("%s: %x, not %x", what, got, want)
	}
}

func tag(key api.Key, b []byte) []byte {
	out := poly.Tag(key, b)
	return out[:]
}

func sum(p *poly.Poly) []byte {
	out := p.Sum()
	return out[:]
}

// hold holds a tag against what is expected.
func hold(t testing.TB, key api.Key, b []byte) {
	t.Helper()
	if got, want := tag(key, b), expected(key, b); !bytes.Equal(got, want) {
		t.Errorf("Tag(%x, %x): %x, not %x", key, b, got, want)
	}
}

// inPieces is the sum of pieces that come one behind the other.
func inPieces(key api.Key, pieces ...[]byte) []byte {
	p := poly.New(key)
	for _, b := range pieces {
		p.Write(b)
	}
	return sum(p)
}

// P5.1

const ietf = "Any submission to the IETF intended by the Contributor for publication as all or part of an IETF Internet-Draft or RFC and any statement made within the context of an IETF activity is considered an \"IETF Contribution\". Such statements include oral statements in IETF sessions, as well as written and electronic communications made at any time or place, which are addressed to"

const borogoves = "'Twas brillig, and the slithy toves\nDid gyre and gimble in the wabe:\nAll mimsy were the borogoves,\nAnd the mome raths outgrabe."

// W6: RFC 8439, 2.5.2 and appendix A.3.
func TestP51TagsOfTheStandard(t *testing.T) {
	three := unhex(t, "36e5f6b5c5e06070f0efca96227a863e")
	ten := unhex(t, "01 00000000000000 04 00000000000000")
	for _, c := range []struct {
		key  api.Key
		text []byte
		want string
	}{
		{api.Key(unhex(t, "85d6be7857556d337f4452fe42d506a80103808afb0db2fd4abff6af4149f51b")), []byte("Cryptographic Forum Research Group"), "a8061dc1305136c6c22b8baf0c0127a9"},
		{api.Key{}, make([]byte, 64), "00000000000000000000000000000000"},
		{keyOf(nil, three), []byte(ietf), "36e5f6b5c5e06070f0efca96227a863e"},
		{keyOf(three, nil), []byte(ietf), "f3477e7cd95417af89a6b8794c310cf0"},
		{api.Key(unhex(t, "1c9240a5eb55d38af333888604f6b5f0473917c1402b80099dca5cbc207075c0")), []byte(borogoves), "4541669a7eaaee61e708dc7cbcc5eb62"},
		{api.Key{2}, filled(0xff, 16), "03000000000000000000000000000000"},
		{keyOf([]byte{2}, filled(0xff, 16)), append([]byte{2}, make([]byte, 15)...), "03000000000000000000000000000000"},
		{api.Key{1}, unhex(t, "ffffffffffffffffffffffffffffffff f0ffffffffffffffffffffffffffffff 11000000000000000000000000000000"), "05000000000000000000000000000000"},
		{api.Key{1}, unhex(t, "ffffffffffffffffffffffffffffffff fbfefefefefefefefefefefefefefefe 01010101010101010101010101010101"), "00000000000000000000000000000000"},
		{api.Key{2}, unhex(t, "fdffffffffffffffffffffffffffffff"), "faffffffffffffffffffffffffffffff"},
		{keyOf(ten, nil), unhex(t, "e33594d7505e43b90000000000000000 33 94d7505e4379cd0100000000000000 00000000000000000000000000000000 01000000000000000000000000000000"), "14000000000000005500000000000000"},
		{keyOf(ten, nil), unhex(t, "e33594d7505e43b90000000000000000 33 94d7505e4379cd0100000000000000 00000000000000000000000000000000"), "13000000000000000000000000000000"},
	} {
		same(t, "Tag", tag(c.key, c.text), unhex(t, c.want))
		same(t, "in one piece", inPieces(c.key, c.text), unhex(t, c.want))
		same(t, "what the tests expect", expected(c.key, c.text), unhex(t, c.want))
	}
}

func TestP51EachLength(t *testing.T) {
	d := rand.New(rand.NewSource(1))
	for n := range 400 {
		for range 5 {
			hold(t, anyKey(d), anyBytes(d, n))
		}
		hold(t, api.Key(filled(0xff, 32)), filled(0xff, n))
		hold(t, api.Key(filled(0xff, 32)), make([]byte, n))
	}
	for _, n := range []int{4096, 4097, 1<<16 - 1, 1<<16 + 1} {
		hold(t, anyKey(d), anyBytes(d, n))
		hold(t, api.Key(filled(0xff, 32)), filled(0xff, n))
	}
}

func TestP51EachBit(t *testing.T) {
	d := rand.New(rand.NewSource(2))
	some := anyBytes(d, 40)
	for bit := range 256 {
		var key api.Key
		key[bit/8] = 1 << (bit % 8)
		hold(t, key, some)
		hold(t, key, filled(0xff, 48))
		for i := range key {
			key[i] ^= 255
		}
		hold(t, key, some)
		hold(t, key, filled(0xff, 48))
	}
	some = anyBytes(d, 32)
	for bit := range 47 * 8 {
		b := make([]byte, 47)
		b[bit/8] = 1 << (bit % 8)
		hold(t, api.Key(some), b)
		hold(t, api.Key(filled(0xff, 32)), b)
	}
}

// clearedBits are those of a key that count not.
func clearedBits() []int {
	var list []int
	for _, i := range []int{3, 7, 11, 15} {
		list = append(list, 8*i+4, 8*i+5, 8*i+6, 8*i+7)
	}
	for _, i := range []int{4, 8, 12} {
		list = append(list, 8*i, 8*i+1)
	}
	return list
}

func TestP51ClearedBitsCountNot(t *testing.T) {
	d := rand.New(rand.NewSource(3))
	list := clearedBits()
	for range 20 {
		key, b := anyKey(d), anyBytes(d, 33)
		was := tag(key, b)
		for bit := range 256 {
			other := key
			other[bit/8] ^= 1 << (bit % 8)
			if alike := bytes.Equal(tag(other, b), was); alike != slices.Contains(list, bit) {
				t.Errorf("the tag of %x under %x with another bit %d is the same: %t", b, key, bit, alike)
			}
			hold(t, other, b)
		}
		none, all := key, key
		for _, bit := range list {
			none[bit/8] &^= 1 << (bit % 8)
			all[bit/8] |= 1 << (bit % 8)
		}
		same(t, "with none of them", tag(none, b), was)
		same(t, "with all of them", tag(all, b), was)
		same(t, "with all of them, in pieces", inPieces(all, b[:20], b[20:]), was)
	}
}

// With an r of 1 and an s of 0 a tag is the sum of the blocks: so each of them is seen.
func TestP51BlocksAsTheyAre(t *testing.T) {
	d := rand.New(rand.NewSource(4))
	key := api.Key{1}
	for n := range 16 {
		b := anyBytes(d, n)
		want := make([]byte, 16)
		if n > 0 {
			want[copy(want, b)] = 1
		}
		same(t, "bytes with a 1 behind them", tag(key, b), want)
	}
	for _, b := range [][]byte{anyBytes(d, 16), make([]byte, 16), filled(0xff, 16)} {
		same(t, "a block, whose 1 is 2^128", tag(key, b), b)
		four := bytes.Repeat(b, 4)
		four = append(four, make([]byte, 64)...)
		want := numberOf(b)
		// Eight times 2^128 is 2 P + 10.
		want.Mod(want.Add(want.Mul(want, big.NewInt(4)), big.NewInt(10)), prime())
		same(t, "four, and four noughts", tag(key, four), bytesOf(want))
	}
}

// What is 0 is not nothing, and not what is shorter.
func TestP51NoughtsCount(t *testing.T) {
	for _, key := range []api.Key{api.Key(filled(0xff, 32)), {0: 3, 9: 1, 31: 5}, {1: 9, 14: 1}} {
		seen := map[string]int{}
		for n := range 100 {
			at := string(tag(key, make([]byte, n)))
			if was, met := seen[at]; met {
				t.Errorf("%d noughts and %d have the same tag under %x", was, n, key)
			}
			seen[at] = n
			hold(t, key, make([]byte, n))
		}
	}
}

// towards are bytes with one more block, so that their sum is the target; nil if there is none.
func towards(r, target *big.Int, ahead []byte) []byte {
	p := prime()
	need := new(big.Int).ModInverse(r, p)
	need.Mul(need, target)
	need.Mod(need.Sub(need, sumOf(r, ahead)), p)
	if need.Sub(need, power(128)); need.Sign() < 0 || need.BitLen() > 128 {
		return nil
	}
	return append(bytes.Clone(ahead), bytesOf(need)...)
}

// edges are numbers below P at which a sum turns: about 0, P, and the bits between.
func edges() []*big.Int {
	var list []*big.Int
	for _, bit := range []uint{0, 40, 42, 44, 63, 64, 86, 88, 104, 124, 127, 128, 129, 130} {
		for by := int64(-12); by <= 12; by++ {
			n := new(big.Int).Add(power(bit), big.NewInt(by))
			list = append(list, n.Mod(n, prime()))
		}
	}
	for by := int64(-3000); by <= 3000; by += 37 {
		list = append(list, new(big.Int).Mod(big.NewInt(by), prime()))
	}
	return list
}

func TestP51SumsAboutP(t *testing.T) {
	d := rand.New(rand.NewSource(5))
	found := 0
	for i, target := range edges() {
		for try := range 16 {
			key := anyKey(d)
			switch (i + try) % 4 {
			case 0:
				key = keyOf([]byte{byte(1 + d.Intn(9))}, key[16:])
			case 1:
				key = keyOf(filled(0xff, 16), key[16:])
			}
			b := towards(rOf(key), target, anyBytes(d, 16*d.Intn(4)))
			if b == nil {
				continue
			}
			found++
			want := new(big.Int).Add(target, numberOf(key[16:]))
			same(t, "a sum of "+target.String(), tag(key, b), bytesOf(want))
			same(t, "a sum of "+target.String()+", and no s", tag(keyOf(key[:16], nil), b), bytesOf(target))
		}
	}
	if found < 1000 {
		t.Errorf("only %d sums were there", found)
	}
}

// Two blocks, and three, whose sum is P and a little more or less, or 2 P: with an r of 1 nothing but the sum is reduced.
func TestP51NumbersAboutP(t *testing.T) {
	key := api.Key{1}
	for by := int64(-40); by <= 3; by++ {
		second := new(big.Int).Sub(prime(), new(big.Int).Sub(power(129), big.NewInt(1)))
		second.Add(second, big.NewInt(by))
		b := append(filled(0xff, 16), bytesOf(second)...)
		want := new(big.Int).Mod(big.NewInt(by), prime())
		same(t, "P and "+big.NewInt(by).String(), tag(key, b), bytesOf(want))
		hold(t, key, b)
	}
	for by := int64(-40); by <= 40; by++ {
		for _, times := range []int64{1, 2, 3, 16} {
			// Each block is 2^128 at least; what is missing to the number is laid on them.
			count := 3 * times
			left := new(big.Int).Mul(prime(), big.NewInt(times))
			left.Add(left, big.NewInt(by))
			left.Sub(left, new(big.Int).Mul(power(128), big.NewInt(count)))
			var b []byte
			for range count {
				n := new(big.Int).Sub(power(128), big.NewInt(1))
				if n.Cmp(left) > 0 {
					n.Set(left)
				}
				left.Sub(left, n)
				b = append(b, bytesOf(n)...)
			}
			if left.Sign() != 0 {
				t.Fatalf("no blocks for %d P and %d", times, by)
			}
			same(t, "about P", tag(key, b), bytesOf(new(big.Int).Mod(big.NewInt(by), prime())))
		}
	}
}

// s is added modulo 2^128, not modulo P, and what goes beyond is left off.
func TestP51SIsAddedModulo128Bits(t *testing.T) {
	for _, c := range []struct{ block, s, want string }{
		{"ffffffffffffffffffffffffffffffff", "01000000000000000000000000000000", "00000000000000000000000000000000"},
		{"ffffffffffffffffffffffffffffffff", "ffffffffffffffffffffffffffffffff", "feffffffffffffffffffffffffffffff"},
		{"ffffffffffffffff0000000000000000", "01000000000000000000000000000000", "00000000000000000100000000000000"},
		{"ffffffffffffffffffffffffffffff7f", "01000000000000000000000000000000", "00000000000000000000000000000080"},
		{"00000000000000000000000000000080", "00000000000000000000000000000080", "00000000000000000000000000000000"},
		{"00000000000000000000000000000000", "fbffffffffffffffffffffffffffffff", "fbffffffffffffffffffffffffffffff"},
		{"0000000000000000ffffffffffffffff", "00000000000000000100000000000000", "00000000000000000000000000000000"},
	} {
		key, b := keyOf([]byte{1}, unhex(t, c.s)), unhex(t, c.block)
		same(t, c.block+" and "+c.s, tag(key, b), unhex(t, c.want))
		hold(t, key, b)
	}
}

func TestP51SumCanGoOn(t *testing.T) {
	d := rand.New(rand.NewSource(6))
	for range 30 {
		key, b := anyKey(d), anyBytes(d, 200)
		p := poly.New(key)
		same(t, "nothing was taken in", sum(p), key[16:])
		for i := range b {
			p.Write(b[i : i+1])
			same(t, "so far", sum(p), expected(key, b[:i+1]))
		}
	}
}

func TestP51PolysOfTheirOwn(t *testing.T) {
	d := rand.New(rand.NewSource(7))
	one, two := anyKey(d), anyKey(d)
	p, q, r := poly.New(one), poly.New(two), poly.New(one)
	var b, c []byte
	for range 40 {
		x, y := anyBytes(d, d.Intn(40)), anyBytes(d, d.Intn(40))
		p.Write(x)
		q.Write(y)
		b, c = append(b, x...), append(c, y...)
		same(t, "one", sum(p), expected(one, b))
		same(t, "another", sum(q), expected(two, c))
		same(t, "one that has taken nothing in", sum(r), one[16:])
	}
}

func TestP51NoPoly(t *testing.T) {
	for _, p := range []*poly.Poly{nil, {}, new(poly.Poly)} {
		for _, b := range [][]byte{nil, {}, {1}, filled(0xff, 15), filled(0xff, 16), filled(0xff, 17), filled(0xff, 1000)} {
			p.Write(b)
			same(t, "no poly", sum(p), make([]byte, 16))
			same(t, "no poly, again", sum(p), make([]byte, 16))
		}
		if p != nil && *p != (poly.Poly{}) {
			t.Error("something was written into none")
		}
	}
}

// P5.2

func TestP52Same(t *testing.T) {
	d := rand.New(rand.NewSource(8))
	for n := range 70 {
		b := anyBytes(d, n)
		c := bytes.Clone(b)
		if !poly.Same(b, c) || !poly.Same(b, b) {
			t.Errorf("%d bytes are not the same as themselves", n)
		}
		for bit := range 8 * n {
			c[bit/8] ^= 1 << (bit % 8)
			if poly.Same(b, c) || poly.Same(c, b) {
				t.Errorf("%d bytes, the bit %d being another one, are the same", n, bit)
			}
			c[bit/8] = b[bit/8]
		}
		for i := range n {
			if poly.Same(b, b[:i]) || poly.Same(b[:i], b) {
				t.Errorf("%d bytes are the same as their first %d", n, i)
			}
		}
	}
}

func TestP52SameWithoutBytes(t *testing.T) {
	none := [][]byte{nil, {}, make([]byte, 0, 16)}
	for _, a := range none {
		for _, b := range none {
			if !poly.Same(a, b) {
				t.Error("no bytes are not the same as none")
			}
		}
		for n := 1; n < 40; n++ {
			if poly.Same(a, make([]byte, n)) || poly.Same(make([]byte, n), a) {
				t.Errorf("no bytes are the same as %d noughts", n)
			}
		}
	}
}

// Lengths, and bytes, that differ by what a narrow number would not tell.
func TestP52WhatIsNearlyTheSame(t *testing.T) {
	for _, by := range []int{1, 16, 255, 256, 512, 1 << 16} {
		for _, n := range []int{0, 1, 16} {
			a, b := make([]byte, n), make([]byte, n+by)
			if poly.Same(a, b) || poly.Same(b, a) {
				t.Errorf("%d noughts are the same as %d", n, n+by)
			}
		}
	}
	for _, c := range []struct{ a, b string }{
		{"0000", "0101"}, {"0000", "01ff"}, {"0000", "8080"}, {"0102", "0201"}, {"00", "ff"}, {"7f", "80"}, {"ffff", "0000"},
		{"000000", "010203"}, {"55", "aa"}, {"00ff", "ff00"}, {"0100", "0001"}, {"ff", "7f"}, {"0001", "01"}, {"0100", "01"},
	} {
		a, b := unhex(t, c.a), unhex(t, c.b)
		if poly.Same(a, b) || poly.Same(b, a) {
			t.Errorf("%s and %s are the same", c.a, c.b)
		}
		a, b = bytes.Repeat(a, 8), bytes.Repeat(b, 8)
		if poly.Same(a, b) || poly.Same(b, a) {
			t.Errorf("%s and %s, eight times, are the same", c.a, c.b)
		}
	}
}

func TestP52Tags(t *testing.T) {
	d := rand.New(rand.NewSource(9))
	for range 300 {
		key, b := anyKey(d), anyBytes(d, d.Intn(60))
		if !poly.Same(tag(key, b), inPieces(key, b)) {
			t.Error("two tags of the same are not")
		}
		if poly.Same(tag(key, b), tag(key, append(bytes.Clone(b), 0))) {
			t.Error("tags of others are the same")
		}
	}
}

// P5.3

func TestP53WhatIsHandedInIsOnlyRead(t *testing.T) {
	d := rand.New(rand.NewSource(10))
	for _, n := range lengths {
		room := anyBytes(d, n+50)
		was := bytes.Clone(room)
		key := anyKey(d)
		k := key
		p := poly.New(key)
		p.Write(room[:n])
		p.Sum()
		poly.Tag(key, room[:n])
		poly.Same(room[:n], room[10:10+n])
		poly.Same(room[:n], room[:n])
		same(t, "what was handed in, and its spare room", room, was)
		if key != k {
			t.Error("a key was changed")
		}
	}
}

func TestP53WhatIsHandedInIsNotKept(t *testing.T) {
	d := rand.New(rand.NewSource(11))
	for _, n := range lengths {
		key, b := anyKey(d), anyBytes(d, n)
		want := expected(key, append(bytes.Clone(b), 1, 2, 3))
		handed := key
		p := poly.New(handed)
		for i := range handed {
			handed[i] ^= 255
		}
		p.Write(b)
		for i := range b {
			b[i] ^= 255
		}
		p.Write([]byte{1, 2, 3})
		same(t, "what was changed behind that", sum(p), want)
	}
}

func TestP53WhatIsAnsweredIsNew(t *testing.T) {
	d := rand.New(rand.NewSource(12))
	key, b := anyKey(d), anyBytes(d, 21)
	p := poly.New(key)
	p.Write(b)
	one := p.Sum()
	for i := range one {
		one[i] ^= 255
	}
	same(t, "Sum behind that", sum(p), expected(key, b))
	two := poly.Tag(key, b)
	for i := range two {
		two[i] ^= 255
	}
	same(t, "Tag behind that", tag(key, b), expected(key, b))
	p.Write(one[:])
	same(t, "what was answered, taken in", sum(p), expected(key, append(b, one[:]...)))
}

// P5.4

func TestP54EveryTwoPieces(t *testing.T) {
	d := rand.New(rand.NewSource(13))
	for n := range 100 {
		key, b := anyKey(d), anyBytes(d, n)
		want := expected(key, b)
		same(t, "Tag", tag(key, b), want)
		for cut := range n + 1 {
			same(t, "two pieces", inPieces(key, b[:cut], b[cut:]), want)
			p := poly.New(key)
			p.Write(b[:cut])
			same(t, "the first", sum(p), expected(key, b[:cut]))
			p.Write(b[cut:])
			same(t, "two pieces, asked between them", sum(p), want)
			same(t, "asked twice", sum(p), want)
		}
	}
}

func TestP54EveryThreePieces(t *testing.T) {
	d := rand.New(rand.NewSource(14))
	for _, x := range lengths {
		for _, y := range lengths {
			for _, z := range lengths {
				key, b := anyKey(d), anyBytes(d, x+y+z)
				same(t, "three pieces", inPieces(key, b[:x], b[x:x+y], b[x+y:]), tag(key, b))
			}
		}
	}
}

func TestP54ByteByByte(t *testing.T) {
	d := rand.New(rand.NewSource(15))
	for _, size := range []int{1, 2, 3, 5, 8, 13, 15, 16, 17, 31, 32, 33} {
		key, b := anyKey(d), anyBytes(d, 300)
		pieces := slices.Collect(slices.Chunk(b, size))
		same(t, "pieces of one size", inPieces(key, pieces...), expected(key, b))
	}
}

// Nothing that is taken in changes nothing, wherever it comes.
func TestP54PiecesWithoutBytes(t *testing.T) {
	d := rand.New(rand.NewSource(16))
	for _, n := range lengths {
		key, b := anyKey(d), anyBytes(d, n)
		for cut := range n + 1 {
			same(t, "none between", inPieces(key, nil, b[:cut], nil, []byte{}, b[cut:], b[:0], nil), expected(key, b))
		}
	}
	key := anyKey(d)
	same(t, "none at all", inPieces(key, nil, []byte{}, nil), key[16:])
}

func TestP54AnyPieces(t *testing.T) {
	d := rand.New(rand.NewSource(17))
	for range 300 {
		key, b := anyKey(d), anyBytes(d, d.Intn(600))
		p := poly.New(key)
		for from := 0; from < len(b); {
			to := min(len(b), from+d.Intn(50))
			p.Write(b[from:to])
			if d.Intn(3) == 0 {
				same(t, "so far", sum(p), expected(key, b[:to]))
			}
			from = to
		}
		same(t, "all", sum(p), tag(key, b))
		same(t, "all, again", sum(p), expected(key, b))
	}
}

// P5.5

func TestP55WithoutBytes(t *testing.T) {
	d := rand.New(rand.NewSource(18))
	for range 200 {
		key := anyKey(d)
		same(t, "Tag of none", tag(key, nil), key[16:])
		same(t, "Tag of none", tag(key, []byte{}), key[16:])
		same(t, "Sum of none", sum(poly.New(key)), key[16:])
	}
	same(t, "under noughts", tag(api.Key{}, nil), make([]byte, 16))
	same(t, "under FF", tag(api.Key(filled(0xff, 32)), nil), filled(0xff, 16))
}

func TestP55WithoutR(t *testing.T) {
	d := rand.New(rand.NewSource(19))
	var r [16]byte
	for _, bit := range clearedBits() {
		r[bit/8] |= 1 << (bit % 8)
	}
	for n := range 100 {
		s, b := anyBytes(d, 16), anyBytes(d, n)
		same(t, "an r of 0", tag(keyOf(nil, s), b), s)
		same(t, "bits that are cleared alone", tag(keyOf(r[:], s), b), s)
		same(t, "an r of 0, in pieces", inPieces(keyOf(nil, s), b[:n/2], b[n/2:]), s)
	}
}

func TestP55AsFarAsBothS(t *testing.T) {
	d := rand.New(rand.NewSource(20))
	far := func(a, b []byte) []byte {
		return bytesOf(new(big.Int).Sub(numberOf(a), numberOf(b)))
	}
	for n := range 150 {
		one := anyKey(d)
		b := anyBytes(d, n)
		for _, s := range [][]byte{nil, {1}, filled(0xff, 16), anyBytes(d, 16), bytesOf(new(big.Int).Neg(numberOf(one[16:])))} {
			two := keyOf(one[:16], s)
			same(t, "how far", far(tag(one, b), tag(two, b)), far(one[16:], two[16:]))
			two[15] ^= 0xf0
			same(t, "how far, other bits being cleared", far(tag(one, b), tag(two, b)), far(one[16:], two[16:]))
		}
	}
}

// R2: the same again, whatever was called ahead.
func TestR2TheSameAgain(t *testing.T) {
	d := rand.New(rand.NewSource(21))
	for range 200 {
		key, b := anyKey(d), anyBytes(d, d.Intn(100))
		p := poly.New(key)
		p.Write(b)
		once := p.Sum()
		poly.Tag(anyKey(d), b)
		poly.Tag(key, anyBytes(d, 50))
		poly.New(anyKey(d)).Write(b)
		poly.Same(b, once[:])
		same(t, "Sum again", sum(p), once[:])
		same(t, "Tag again", tag(key, b), once[:])
		same(t, "another poly", inPieces(key, b), once[:])
	}
}

// The chapter's examples.

func TestExamples(t *testing.T) {
	key := api.Key(unhex(t, "85d6be7857556d337f4452fe42d506a80103808afb0db2fd4abff6af4149f51b"))
	same(t, "a text", tag(key, []byte("Cryptographic Forum Research Group")), unhex(t, "a8061dc1305136c6c22b8baf0c0127a9"))
	same(t, "none", tag(key, nil), key[16:])
	same(t, "FF", tag(api.Key{2}, filled(0xff, 16)), append([]byte{3}, make([]byte, 15)...))
}
