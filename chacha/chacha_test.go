package chacha_test

import (
	"bytes"
	"crypto/sha256"
	"encoding/binary"
	"encoding/hex"
	"math"
	"math/bits"
	"math/rand"
	"testing"

	"causeway/api"
	"causeway/chacha"
)

// last is the greatest counter.
const last = math.MaxUint32

func unhex(t testing.TB, text string) []byte {
	t.Helper()
	b, err := hex.DecodeString(text)
	if err != nil {
		t.Fatal(err)
	}
	return b
}

// first is the key of the bytes 0 to 31.
func first() (k api.Key) {
	for i := range k {
		k[i] = byte(i)
	}
	return k
}

func anyBytes(d *rand.Rand, n int) []byte {
	b := make([]byte, n)
	d.Read(b)
	return b
}

func anyKey(d *rand.Rand) api.Key {
	return api.Key(anyBytes(d, 32))
}

func anyNonce(d *rand.Rand) [12]byte {
	return [12]byte(anyBytes(d, 12))
}

// row is four numbers that are worked on at once, as the other way to write ChaCha20 has it: columns first, then each row turned so that diagonals are columns.
type row [4]uint32

func (r row) plus(s row) row {
	for i := range r {
		r[i] += s[i]
	}
	return r
}

func (r row) xorTurned(s row, left int) row {
	for i := range r {
		r[i] = bits.RotateLeft32(r[i]^s[i], left)
	}
	return r
}

func (r row) shifted(by int) row {
	return row{r[by%4], r[(by+1)%4], r[(by+2)%4], r[(by+3)%4]}
}

func columns(a, b, c, d row) (row, row, row, row) {
	a = a.plus(b)
	d = d.xorTurned(a, 16)
	c = c.plus(d)
	b = b.xorTurned(c, 12)
	a = a.plus(b)
	d = d.xorTurned(a, 8)
	c = c.plus(d)
	b = b.xorTurned(c, 7)
	return a, b, c, d
}

func rowOf(b []byte) (r row) {
	for i := range r {
		r[i] = binary.LittleEndian.Uint32(b[4*i:])
	}
	return r
}

// expected is a block, told in rows.
func expected(key api.Key, counter uint32, nonce [12]byte) []byte {
	tail := append(binary.LittleEndian.AppendUint32(nil, counter), nonce[:]...)
	start := [4]row{rowOf([]byte("expand 32-byte k")), rowOf(key[:16]), rowOf(key[16:]), rowOf(tail)}
	a, b, c, d := start[0], start[1], start[2], start[3]
	for range 10 {
		a, b, c, d = columns(a, b, c, d)
		a, b, c, d = columns(a, b.shifted(1), c.shifted(2), d.shifted(3))
		b, c, d = b.shifted(3), c.shifted(2), d.shifted(1)
	}
	var out []byte
	for i, r := range []row{a, b, c, d} {
		for _, n := range r.plus(start[i]) {
			out = binary.LittleEndian.AppendUint32(out, n)
		}
	}
	return out
}

// stream is as many bytes of the key stream; all of its blocks must be there.
func stream(t testing.TB, key api.Key, counter uint32, nonce [12]byte, n int) []byte {
	t.Helper()
	var b []byte
	for at := uint64(counter); len(b) < n; at++ {
		if at > last {
			t.Fatalf("no stream of %d bytes from %x on", n, counter)
		}
		b = append(b, expected(key, uint32(at), nonce)...)
	}
	return b[:n]
}

func xored(a, b []byte) []byte {
	out := make([]byte, len(a))
	for i := range a {
		out[i] = a[i] ^ b[i]
	}
	return out
}

// xor is Xor, where it must not refuse.
func xor(t testing.TB, key api.Key, counter uint32, nonce [12]byte, b []byte) []byte {
	t.Helper()
	out, e := chacha.Xor(key, counter, nonce, b)
	if e != api.OK {
		t.Fatalf("Xor of %d bytes from %x on: %d", len(b), counter, e)
	}
	if len(out) != len(b) {
		t.Fatalf("Xor of %d bytes from %x on: %d bytes", len(b), counter, len(out))
	}
	return out
}

func same(t testing.TB, what string, got, want []byte) {
	t.Helper()
	if !bytes.Equal(got, want) {
		t.Errorf("%s: %x, not %x", what, got, want)
	}
}

func sameBlock(t testing.TB, key api.Key, counter uint32, nonce [12]byte) {
	t.Helper()
	if got, want := chacha.Block(key, counter, nonce), expected(key, counter, nonce); !bytes.Equal(got[:], want) {
		t.Errorf("Block(%x, %x, %x): %x, not %x", key, counter, nonce, got, want)
	}
}

// counters are those at which something turns.
func counters() []uint32 {
	list := []uint32{0, 1, 2, 3, last, last - 1, last - 2, last - 3}
	for bit := range 32 {
		list = append(list, 1<<bit, 1<<bit-1, last-1<<bit, last-1<<bit+1)
	}
	return list
}

// P4.1

func TestP41Quarter(t *testing.T) {
	for _, c := range []struct{ x, want [4]uint32 }{
		{[4]uint32{}, [4]uint32{}},
		{[4]uint32{0x11111111, 0x01020304, 0x9b8d6f43, 0x01234567}, [4]uint32{0xea2a92f4, 0xcb1cf8ce, 0x4581472e, 0x5881c4bb}},
		// RFC 8439, 2.2.1.
		{[4]uint32{0x516461b1, 0x2a5f714c, 0x53372767, 0x3d631689}, [4]uint32{0xbdb886dc, 0xcfacafd2, 0xe46bea80, 0xccc07c79}},
	} {
		if got := chacha.Quarter(c.x); got != c.want {
			t.Errorf("Quarter(%x): %x, not %x", c.x, got, c.want)
		}
	}
}

// turns are fours in which a bit stands alone, or is alone in being 0, and any.
func turns() [][4]uint32 {
	var list [][4]uint32
	for i := range 4 {
		for bit := range 32 {
			var x [4]uint32
			x[i] = 1 << bit
			list = append(list, x, [4]uint32{^x[0], ^x[1], ^x[2], ^x[3]})
		}
	}
	d := rand.New(rand.NewSource(1))
	for range 2000 {
		list = append(list, [4]uint32{d.Uint32(), d.Uint32(), d.Uint32(), d.Uint32()})
	}
	return append(list, [4]uint32{}, [4]uint32{last, last, last, last})
}

func TestP41QuarterWhereItTurns(t *testing.T) {
	for _, x := range turns() {
		a, b, c, d := columns(row{x[0]}, row{x[1]}, row{x[2]}, row{x[3]})
		if got, want := chacha.Quarter(x), [4]uint32{a[0], b[0], c[0], d[0]}; got != want {
			t.Errorf("Quarter(%x): %x, not %x", x, got, want)
		}
	}
}

// W6: RFC 8439, 2.3.2 and appendix A.1.
func TestP41BlocksOfTheStandard(t *testing.T) {
	for _, c := range []struct {
		key     api.Key
		counter uint32
		nonce   [12]byte
		want    string
	}{
		{first(), 1, [12]byte{3: 9, 7: 0x4a}, "10f1e7e4d13b5915500fdd1fa32071c4c7d1f4c733c068030422aa9ac3d46c4ed2826446079faa0914c2d705d98b02a2b5129cd1de164eb9cbd083e8a2503c4e"},
		{api.Key{}, 0, [12]byte{}, "76b8e0ada0f13d90405d6ae55386bd28bdd219b8a08ded1aa836efcc8b770dc7da41597c5157488d7724e03fb8d84a376a43b8f41518a11cc387b669b2ee6586"},
		{api.Key{}, 1, [12]byte{}, "9f07e7be5551387a98ba977c732d080dcb0f29a048e3656912c6533e32ee7aed29b721769ce64e43d57133b074d839d531ed1f28510afb45ace10a1f4b794d6f"},
		{api.Key{31: 1}, 1, [12]byte{}, "3aeb5224ecf849929b9d828db1ced4dd832025e8018b8160b82284f3c949aa5a8eca00bbb4a73bdad192b5c42f73f2fd4e273644c8b36125a64addeb006c13a0"},
		{api.Key{1: 255}, 2, [12]byte{}, "72d54dfbf12ec44b362692df94137f328fea8da73990265ec1bbbea1ae9af0ca13b25aa26cb4a648cb9b9d1be65b2c0924a66c54d545ec1b7374f4872e99f096"},
		{api.Key{}, 0, [12]byte{11: 2}, "c2c64d378cd536374ae204b9ef933fcd1a8b2288b3dfa49672ab765b54ee27c78a970e0e955c14f3a88e741b97c286f75f8fc299e8148362fa198a39531bed6d"},
	} {
		got := chacha.Block(c.key, c.counter, c.nonce)
		same(t, "Block", got[:], unhex(t, c.want))
		same(t, "what the tests expect", expected(c.key, c.counter, c.nonce), unhex(t, c.want))
	}
}

func TestP41BlockOfEachBit(t *testing.T) {
	for bit := range 256 {
		var k api.Key
		k[bit/8] = 1 << (bit % 8)
		sameBlock(t, k, 0, [12]byte{})
		for i := range k {
			k[i] ^= 255
		}
		sameBlock(t, k, last, [12]byte{})
	}
	for bit := range 96 {
		var n [12]byte
		n[bit/8] = 1 << (bit % 8)
		sameBlock(t, api.Key{}, 0, n)
		for i := range n {
			n[i] ^= 255
		}
		sameBlock(t, first(), last, n)
	}
	for _, counter := range counters() {
		sameBlock(t, first(), counter, [12]byte{})
	}
}

func TestP41BlockOfAny(t *testing.T) {
	d := rand.New(rand.NewSource(2))
	for range 3000 {
		sameBlock(t, anyKey(d), d.Uint32(), anyNonce(d))
	}
}

// P4.2

// W6: RFC 8439, 2.4.2 and appendix A.2.
func TestP42TextsOfTheStandard(t *testing.T) {
	sun := "Ladies and Gentlemen of the class of '99: If I could offer you only one tip for the future, sunscreen would be it."
	want := "6e2e359a2568f98041ba0728dd0d6981e97e7aec1d4360c20a27afccfd9fae0bf91b65c5524733ab8f593dabcd62b3571639d624e65152ab8f530c359f0861d807ca0dbf500d6a6156a38e088a22b65e52bc514d16ccf806818ce91ab77937365af90bbf74a35be6b40b8eedf2785e42874d"
	same(t, "sunscreen", xor(t, first(), 1, [12]byte{7: 0x4a}, []byte(sun)), unhex(t, want))

	borogoves := "'Twas brillig, and the slithy toves\nDid gyre and gimble in the wabe:\nAll mimsy were the borogoves,\nAnd the mome raths outgrabe."
	want = "62e6347f95ed87a45ffae7426f27a1df5fb69110044c0d73118effa95b01e5cf166d3df2d721caf9b21e5fb14c616871fd84c54f9d65b283196c7fe4f60553ebf39c6402c42234e32a356b3e764312a61a5532055716ead6962568f87d3f3f7704c6a8d1bcd1bf4d50d6154b6da731b187b58dfd728afa36757a797ac188d1"
	key := api.Key(unhex(t, "1c9240a5eb55d38af333888604f6b5f0473917c1402b80099dca5cbc207075c0"))
	same(t, "borogoves", xor(t, key, 42, [12]byte{11: 2}, []byte(borogoves)), unhex(t, want))
}

// What another program has for the same: ends of the stream, and a long one's digest.
func TestP42WhatAnotherProgramTells(t *testing.T) {
	nonce := [12]byte{1, 2, 3, 4, 5, 6, 7, 8, 9, 10, 11, 12}
	end := xor(t, first(), last-1, nonce, make([]byte, 128))
	same(t, "the last two blocks", end, unhex(t, "0a6ef904698cfed0e2a9d264cf24029803976e6dfe192f36866801bae8dcd28d1b9f7d81ccad0bc769f1f3af36276e3e47e0cf943c2b3b0022363525db15520bc4e9bc95855bfc7f5456e79b23564422a662e195208fc8a7d24bd6c35a366573688febc54eade68bc3d3e3529dcec58ac73440107ff9021defca771ad3825c3d"))
	long := sha256.Sum256(xor(t, first(), 1<<31-1000, nonce, make([]byte, 1<<20+17)))
	same(t, "a long one", long[:], unhex(t, "50451e9ff0ae7a14cdc1c7a65bafc0dcb28b88bcd62cd9b278159111e849f7ec"))
}

func TestP42EachLength(t *testing.T) {
	d := rand.New(rand.NewSource(3))
	for n := range 400 {
		key, nonce, counter, b := anyKey(d), anyNonce(d), d.Uint32()>>1, anyBytes(d, n)
		same(t, "Xor", xor(t, key, counter, nonce, b), xored(b, stream(t, key, counter, nonce, n)))
	}
}

func TestP42EachCounter(t *testing.T) {
	d := rand.New(rand.NewSource(4))
	for _, counter := range counters() {
		key, nonce := anyKey(d), anyNonce(d)
		n := min(300, 64*(int(last-counter)+1))
		b := anyBytes(d, n)
		same(t, "Xor", xor(t, key, counter, nonce, b), xored(b, stream(t, key, counter, nonce, n)))
	}
}

func TestP42NoBytes(t *testing.T) {
	for _, counter := range counters() {
		for _, b := range [][]byte{nil, {}, make([]byte, 0, 100)} {
			if out, e := chacha.Xor(first(), counter, [12]byte{}, b); e != api.OK || len(out) != 0 {
				t.Errorf("no bytes from %x on: %x, %d", counter, out, e)
			}
		}
	}
}

// The last block has the counter 2^32 - 1: bytes may end with it.
func TestP42UpToTheLastBlock(t *testing.T) {
	d := rand.New(rand.NewSource(5))
	key, nonce := anyKey(d), anyNonce(d)
	for _, left := range []int{1, 2, 3, 4, 16, 255, 256, 257, 1000, 1 << 14} {
		counter := uint32(1<<32 - left)
		for _, n := range []int{0, 1, 63, 64, 65, 64*left - 65, 64*left - 64, 64*left - 63, 64*left - 1, 64 * left} {
			if n < 0 || n > 64*left {
				continue
			}
			b := anyBytes(d, n)
			same(t, "up to the last block", xor(t, key, counter, nonce, b), xored(b, stream(t, key, counter, nonce, n)))
		}
		for _, n := range []int{64*left + 1, 64*left + 2, 64*left + 63, 64*left + 64, 64*left + 65, 128*left + 1, 64*left + 1<<20} {
			b := anyBytes(d, n)
			was := bytes.Clone(b)
			if out, e := chacha.Xor(key, counter, nonce, b); e != api.ErrLimit || len(out) != 0 {
				t.Errorf("%d bytes from %x on: %d bytes, %d, not ErrLimit", n, counter, len(out), e)
			}
			if !bytes.Equal(b, was) {
				t.Error("what is refused was changed")
			}
		}
	}
}

// Behind the last block nothing goes on into the nonce, and nothing begins anew.
func TestP42TheLastBlockIsTheLast(t *testing.T) {
	nonce := [12]byte{5, 6, 7, 8}
	want := chacha.Block(first(), last, nonce)
	same(t, "the last block", xor(t, first(), last, nonce, make([]byte, 64)), want[:])
	if out, e := chacha.Xor(first(), last, nonce, make([]byte, 65)); e != api.ErrLimit || len(out) != 0 {
		t.Errorf("a byte behind the last block: %x, %d", out, e)
	}
	same(t, "the first block", xor(t, first(), 0, nonce, make([]byte, 64)), expected(first(), 0, nonce))
}

// P4.3

func TestP43WhatIsHandedInIsOnlyRead(t *testing.T) {
	d := rand.New(rand.NewSource(6))
	for _, n := range []int{0, 1, 5, 63, 64, 65, 127, 128, 200} {
		room := anyBytes(d, n+100)
		was := bytes.Clone(room)
		key, nonce, four := anyKey(d), anyNonce(d), [4]uint32{1, 2, 3, 4}
		k, o, f := key, nonce, four
		out := xor(t, key, 7, nonce, room[:n])
		chacha.Block(key, 7, nonce)
		chacha.Quarter(four)
		same(t, "what was handed in, and its spare room", room, was)
		if key != k || nonce != o || four != f {
			t.Error("a key, a nonce or numbers were changed")
		}
		kept := bytes.Clone(out)
		for i := range room {
			room[i] ^= 255
		}
		same(t, "what was answered ahead of that", out, kept)
	}
}

func TestP43WhatIsAnsweredIsNew(t *testing.T) {
	b := make([]byte, 100, 300)
	one, two := xor(t, first(), 3, [12]byte{}, b), xor(t, first(), 3, [12]byte{}, b)
	want := bytes.Clone(one)
	for i := range one {
		one[i] = 99
	}
	one = append(one, 1, 2, 3)
	same(t, "what was handed in", b[:300], make([]byte, 300))
	same(t, "another answer", two, want)
	same(t, "an answer behind that", xor(t, first(), 3, [12]byte{}, b), want)
	two = append(two, 4, 5, 6)
	same(t, "beside it", one[100:], []byte{1, 2, 3})
	same(t, "beside it", two[100:], []byte{4, 5, 6})

	block := chacha.Block(first(), 1, [12]byte{})
	block[0] ^= 255
	again := chacha.Block(first(), 1, [12]byte{})
	same(t, "a block behind that", again[:], expected(first(), 1, [12]byte{}))
}

// P4.4

func TestP44Twice(t *testing.T) {
	d := rand.New(rand.NewSource(7))
	for n := range 300 {
		key, nonce, counter, b := anyKey(d), anyNonce(d), d.Uint32()>>1, anyBytes(d, n)
		once := xor(t, key, counter, nonce, b)
		same(t, "twice", xor(t, key, counter, nonce, once), b)
		if n >= 16 && bytes.Equal(once, b) {
			t.Error("once is as it was")
		}
	}
}

func TestP44WhereverOneBegins(t *testing.T) {
	d := rand.New(rand.NewSource(8))
	key, nonce := anyKey(d), anyNonce(d)
	for _, counter := range []uint32{0, 1, 250, 1<<16 - 3, 1<<31 - 3, last - 9} {
		b := anyBytes(d, 630)
		whole := xor(t, key, counter, nonce, b)
		for n := range 10 {
			same(t, "from a block on", xor(t, key, counter+uint32(n), nonce, b[64*n:]), whole[64*n:])
			block := chacha.Block(key, counter+uint32(n), nonce)
			end := min(64*n+64, len(b))
			same(t, "a block", xored(b[64*n:end], block[:]), whole[64*n:end])
		}
		for n := range b {
			same(t, "up to a byte", xor(t, key, counter, nonce, b[:n]), whole[:n])
		}
	}
}

func TestP44EachByteOnItsOwnPlace(t *testing.T) {
	d := rand.New(rand.NewSource(9))
	key, nonce, b := anyKey(d), anyNonce(d), anyBytes(d, 200)
	whole := xor(t, key, 5, nonce, b)
	for i := range b {
		by := byte(1 + d.Intn(255))
		b[i] ^= by
		whole[i] ^= by
		same(t, "with another byte", xor(t, key, 5, nonce, b), whole)
	}
}

// No two blocks are the same: each bit of a key, a counter and a nonce counts.
func TestP44OtherStreams(t *testing.T) {
	seen := map[[64]byte]bool{chacha.Block(first(), 0, [12]byte{}): true}
	meet := func(b [64]byte) {
		if seen[b] {
			t.Error("a block comes twice")
		}
		seen[b] = true
	}
	for bit := range 256 {
		k := first()
		k[bit/8] ^= 1 << (bit % 8)
		meet(chacha.Block(k, 0, [12]byte{}))
	}
	for bit := range 96 {
		var n [12]byte
		n[bit/8] ^= 1 << (bit % 8)
		meet(chacha.Block(first(), 0, n))
	}
	for bit := range 32 {
		meet(chacha.Block(first(), 1<<bit, [12]byte{}))
	}
}

// P4.5

// back takes a quarter round back.
func back(x [4]uint32) [4]uint32 {
	a, b, c, d := x[0], x[1], x[2], x[3]
	b = bits.RotateLeft32(b, -7) ^ c
	c -= d
	d = bits.RotateLeft32(d, -8) ^ a
	a -= b
	b = bits.RotateLeft32(b, -12) ^ c
	c -= d
	d = bits.RotateLeft32(d, -16) ^ a
	a -= b
	return [4]uint32{a, b, c, d}
}

func TestP45TakenBack(t *testing.T) {
	for _, x := range turns() {
		if got := back(chacha.Quarter(x)); got != x {
			t.Errorf("Quarter(%x), taken back: %x", x, got)
		}
		if got := chacha.Quarter(back(x)); got != x {
			t.Errorf("Quarter of %x, taken back: %x", x, got)
		}
	}
}

func TestP45TwoThatComeToTheSameAreTheSame(t *testing.T) {
	from := map[[4]uint32][4]uint32{}
	for _, x := range turns() {
		to := chacha.Quarter(x)
		if was, met := from[to]; met && was != x {
			t.Errorf("%x and %x come to %x", was, x, to)
		}
		from[to] = x
	}
}

// R2: the same again, whatever was called ahead.
func TestR2TheSameAgain(t *testing.T) {
	d := rand.New(rand.NewSource(10))
	for range 100 {
		key, nonce, counter, b := anyKey(d), anyNonce(d), d.Uint32()>>1, anyBytes(d, d.Intn(200))
		once, block := xor(t, key, counter, nonce, b), chacha.Block(key, counter, nonce)
		xor(t, anyKey(d), counter, nonce, b)
		xor(t, key, counter+1, nonce, once)
		chacha.Xor(key, last, nonce, make([]byte, 65))
		chacha.Block(key, counter, anyNonce(d))
		same(t, "Xor again", xor(t, key, counter, nonce, b), once)
		if chacha.Block(key, counter, nonce) != block {
			t.Error("another block the second time")
		}
	}
}

// The chapter's examples.

func TestExamples(t *testing.T) {
	if got := chacha.Quarter([4]uint32{0x11111111, 0x01020304, 0x9B8D6F43, 0x01234567}); got != [4]uint32{0xEA2A92F4, 0xCB1CF8CE, 0x4581472E, 0x5881C4BB} {
		t.Errorf("Quarter: %X", got)
	}
	block := chacha.Block(first(), 1, [12]byte{3: 0x09, 7: 0x4A})
	same(t, "Block", block[:16], unhex(t, "10F1E7E4D13B5915500FDD1FA32071C4"))
	nonce := [12]byte{3: 0x09, 7: 0x4A}
	if out, e := chacha.Xor(first(), last, nonce, make([]byte, 64)); e != api.OK || len(out) != 64 {
		t.Errorf("64 bytes of the last block: %d, %d", len(out), e)
	}
	if out, e := chacha.Xor(first(), last, nonce, make([]byte, 65)); e != api.ErrLimit || len(out) != 0 {
		t.Errorf("65 bytes of the last block: %d, %d", len(out), e)
	}
}
