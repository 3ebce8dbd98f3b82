package blake_test

import (
	"bytes"
	"crypto/sha256"
	"encoding/binary"
	"encoding/hex"
	"math"
	"math/bits"
	"math/rand"
	"slices"
	"strconv"
	"strings"
	"testing"

	"causeway/api"
	"causeway/blake"
)

// lengths are those at which a block begins or ends, and some between.
var lengths = []int{0, 1, 2, 31, 32, 33, 62, 63, 64, 65, 66, 127, 128, 129, 191, 192, 193, 4096}

// keys are lengths that a key may have.
var keys = []int{0, 1, 2, 15, 16, 31, 32}

func unhex(t testing.TB, text string) []byte {
	t.Helper()
	b, err := hex.DecodeString(strings.ReplaceAll(text, " ", ""))
	if err != nil {
		t.Fatal(err)
	}
	return b
}

func anyBytes(d *rand.Rand, n int) []byte {
	b := make([]byte, n)
	d.Read(b)
	return b
}

// counted are n bytes, each one more than the one ahead of it.
func counted(from byte, n int) []byte {
	b := make([]byte, n)
	for i := range b {
		b[i] = from + byte(i)
	}
	return b
}

// table are the orders, as the chapter has them.
const table = `
    0  1  2  3  4  5  6  7  8  9 10 11 12 13 14 15
   14 10  4  8  9 15 13  6  1 12  0  2 11  7  5  3
   11  8 12  0  5  2 15 13 10 14  3  6  7  1  9  4
    7  9  3  1 13 12 11 14  2  6  5 10  4  0 15  8
    9  0  5  7  2  4 10 15 14  1 11 12  6  8  3 13
    2 12  6 10  0 11  8  3  4 13  7  5 15 14  1  9
   12  5  1 15 14 13  4 10  0  7  6  3  9  2  8 11
   13 11  7 14 12  1  3  9  5  0 15  4  8  6  2 10
    6 15 14  9 11  3  0  8 12  2 13  7  1  4 10  5
   10  2  8  4  7  6  1  5 15 11  9 14  3 12 13  0
`

// orders are all ten, one behind the other.
var orders = func() []int {
	var list []int
	for _, word := range strings.Fields(table) {
		n, err := strconv.Atoi(word)
		if err != nil {
			panic(err)
		}
		list = append(list, n)
	}
	return list
}()

var iv = []uint32{0x6A09E667, 0xBB67AE85, 0x3C6EF372, 0xA54FF53A, 0x510E527F, 0x9B05688C, 0x1F83D9AB, 0x5BE0CD19}

// fours are those that are mixed in a round.
var fours = [][4]int{{0, 4, 8, 12}, {1, 5, 9, 13}, {2, 6, 10, 14}, {3, 7, 11, 15}, {0, 5, 10, 15}, {1, 6, 11, 12}, {2, 7, 8, 13}, {3, 4, 9, 14}}

func mix(v []uint32, at [4]int, x, y uint32) {
	a, b, c, d := &v[at[0]], &v[at[1]], &v[at[2]], &v[at[3]]
	for _, half := range []struct {
		n    uint32
		d, b int
	}{{x, 16, 12}, {y, 8, 7}} {
		*a += *b + half.n
		*d = bits.RotateLeft32(*d^*a, -half.d)
		*c += *d
		*b = bits.RotateLeft32(*b^*c, -half.b)
	}
}

func press(h []uint32, block []byte, taken int, last bool) {
	m := make([]uint32, 16)
	for i := range m {
		m[i] = binary.LittleEndian.Uint32(block[4*i:])
	}
	v := append(slices.Clone(h), iv...)
	v[12] ^= uint32(taken)
	v[13] ^= uint32(uint64(taken) >> 32)
	if last {
		v[14] ^= 0xFFFFFFFF
	}
	for i := 0; i < len(orders); i += 2 {
		mix(v, fours[i/2%8], m[orders[i]], m[orders[i+1]])
	}
	for i := range h {
		h[i] ^= v[i] ^ v[i+8]
	}
}

// expected is the digest, as the chapter tells it, of all that is taken in, in one list.
func expected(size int, key, b []byte) []byte {
	h := slices.Clone(iv)
	h[0] ^= 0x01010000 ^ uint32(256*len(key)) ^ uint32(size)
	var all []byte
	if len(key) > 0 {
		all = append(bytes.Clone(key), make([]byte, 64-len(key))...)
	}
	all = append(all, b...)
	taken := len(all)
	for len(all) == 0 || len(all)%64 > 0 {
		all = append(all, 0)
	}
	for end := 64; end <= len(all); end += 64 {
		press(h, all[end-64:end], min(end, taken), end == len(all))
	}
	var out []byte
	for _, n := range h {
		out = binary.LittleEndian.AppendUint32(out, n)
	}
	return out[:size]
}

func same(t testing.TB, what string, got, want []byte) {
	t.Helper()
	if !bytes.Equal(got, want) {
		t.Errorf("%s: %d bytes, %x, not %d, %x", what, len(got), got, len(want), want)
	}
}

func of(t testing.TB, size int, key, b []byte) []byte {
	t.Helper()
	out, e := blake.Of(size, key, b)
	if e != api.OK {
		t.Errorf("Of(%d, %d bytes, %d bytes): %d", size, len(key), len(b), e)
	}
	return out
}

func sum(b []byte) []byte {
	out := blake.Sum(b)
	return out[:]
}

func made(t testing.TB, size int, key []byte) *blake.Hash {
	t.Helper()
	h, e := blake.New(size, key)
	if e != api.OK || h == nil {
		t.Fatalf("New(%d, %d bytes): %d", size, len(key), e)
	}
	return h
}

// hold holds digests against what is expected.
func hold(t testing.TB, size int, key, b []byte) {
	t.Helper()
	want := expected(size, key, b)
	what := strconv.Itoa(size) + " of " + strconv.Itoa(len(b)) + " bytes under " + strconv.Itoa(len(key))
	same(t, "Of, "+what, of(t, size, key, b), want)
	same(t, "New, "+what, inPieces(t, size, key, b), want)
	if size == 32 && len(key) == 0 {
		same(t, "Sum, "+what, sum(b), want)
	}
}

// inPieces is the digest of pieces that come one behind the other.
func inPieces(t testing.TB, size int, key []byte, pieces ...[]byte) []byte {
	t.Helper()
	h := made(t, size, key)
	for _, b := range pieces {
		h.Write(b)
	}
	return h.Sum()
}

// P7.1

// W6: what RFC 7693 has in its appendix B, and what else is known of the function, under no key and under the bytes 0 to 31.
func TestP71DigestsOfTheStandard(t *testing.T) {
	same(t, "abc", sum([]byte("abc")), unhex(t, "508c5e8c327c14e2e1a72ba34eeb452f37458b209ed63a294d999b4c86675982"))
	for _, c := range []struct {
		n             int
		without, with string
	}{
		{0, "69217a3079908094e11121d042354a7c1f55b6482ca1a51e1b250dfd1ed0eef9", "48a8997da407876b3d79c0d92325ad3b89cbb754d86ab71aee047ad345fd2c49"},
		{1, "e34d74dbaf4ff4c6abd871cc220451d2ea2648846c7757fbaac82fe51ad64bea", "40d15fee7c328830166ac3f918650f807e7e01e177258cdc0a39b11f598066f1"},
		{63, "e57cb79487dd57902432b250733813bd96a84efce59f650fac26e6696aefafc3", "c65382513f07460da39833cb666c5ed82e61b9e998f4b0c4287cee56c3cc9bcd"},
		{64, "56f34e8b96557e90c1f24b52d0c89d51086acf1b00f634cf1dde9233b8eaaa3e", "8975b0577fd35566d750b362b0897a26c399136df07bababbde6203ff2954ed4"},
		{65, "1b53ee94aaf34e4b159d48de352c7f0661d0a40edff95a0b1639b4090e974472", "21fe0ceb0052be7fb0f004187cacd7de67fa6eb0938d927677f2398c132317a8"},
		{127, "f18417b39d617ab1c18fdf91ebd0fc6d5516bb34cf39364037bce81fa04cecb1", "ddbfea75cc467882eb3483ce5e2e756a4f4701b76b445519e89f22d60fa86e06"},
		{128, "1fa877de67259d19863a2a34bcc6962a2b25fcbf5cbecd7ede8f1fa36688a796", "0c311f38c35a4fb90d651c289d486856cd1413df9b0677f53ece2cd9e477c60a"},
		{129, "5bd169e67c82c2c2e98ef7008bdf261f2ddf30b1c00f9e7f275bb3e8a28dc9a2", "46a73a8dd3e70f59d3942c01df599def783c9da82fd83222cd662b53dce7dbdf"},
		{255, "f03f5789d3336b80d002d59fdf918bdb775b00956ed5528e86aa994acb38fe2d", "3fb735061abc519dfe979e54c1ee5bfad0a9d858b3315bad34bde999efd724dd"},
		{4096, "f77af6667918bc01a1e6bc880317428c894a2b209c523d0e427fb9d6b372407a", "d8112c5e247c3e72bd4672ce53aecdeb100f62bb5d6582bcfe8068e1dd00d866"},
	} {
		b, key := counted(0, c.n), counted(0, 32)
		same(t, "Sum", sum(b), unhex(t, c.without))
		same(t, "Of without a key", of(t, 32, nil, b), unhex(t, c.without))
		same(t, "Of with a key", of(t, 32, key, b), unhex(t, c.with))
		same(t, "in one piece", inPieces(t, 32, key, b), unhex(t, c.with))
		same(t, "what the tests expect", expected(32, nil, b), unhex(t, c.without))
		same(t, "what the tests expect", expected(32, key, b), unhex(t, c.with))
	}
}

// sequence are the bytes with which RFC 7693 tests itself.
func sequence(n int) []byte {
	a, b := 0xDEAD4BAD*uint32(n), uint32(1)
	out := make([]byte, n)
	for i := range out {
		a, b = b, a+b
		out[i] = byte(b >> 24)
	}
	return out
}

// W6: RFC 7693, appendix E.
func TestP71TestOfTheStandard(t *testing.T) {
	var all []byte
	for _, size := range []int{16, 20, 28, 32} {
		for _, n := range []int{0, 3, 64, 65, 255, 1024} {
			all = append(all, of(t, size, nil, sequence(n))...)
			all = append(all, of(t, size, sequence(size), sequence(n))...)
		}
	}
	same(t, "the digest of digests", sum(all), unhex(t, "6a411f08ce25adcdfb02aba641451cec53c598b24f4fc787fbdc88797f4c1dfe"))
}

// What another program has for the same: the SHA-256 of its digests, one behind the other.
func TestP71WhatAnotherProgramHas(t *testing.T) {
	all := sha256.New()
	for size := 1; size <= 32; size++ {
		for _, k := range []int{0, 1, 31, 32} {
			for _, n := range []int{0, 1, 63, 64, 65, 127, 128, 129, 4096} {
				all.Write(of(t, size, counted(7, k), counted(3, n)))
			}
		}
	}
	same(t, "all sizes", all.Sum(nil), unhex(t, "930811740945c3dd8e235cf08794952047f5545723ee575e0338e8a174de13e1"))
	all.Reset()
	for n := range 300 {
		for k := range 33 {
			all.Write(of(t, 32, counted(0, k), counted(0, n)))
		}
	}
	same(t, "all keys", all.Sum(nil), unhex(t, "c1d02d684d22e82bc91f2aa90692d3209472b523a09e5a767013dff35224aa31"))
}

func TestP71EachSizeKeyAndLength(t *testing.T) {
	d := rand.New(rand.NewSource(1))
	for size := 1; size <= 32; size++ {
		for k := range 33 {
			for _, n := range []int{0, 1, 63, 64, 65, 127, 128, 129} {
				hold(t, size, anyBytes(d, k), anyBytes(d, n))
			}
		}
	}
	for _, size := range []int{1, 31, 32} {
		for _, k := range keys {
			for n := range 270 {
				hold(t, size, anyBytes(d, k), anyBytes(d, n))
			}
			hold(t, size, anyBytes(d, k), anyBytes(d, 4096))
			hold(t, size, bytes.Repeat([]byte{255}, k), bytes.Repeat([]byte{255}, 4096))
		}
	}
}

// So many bytes that how many were taken in has two, three and four bytes.
func TestP71LongOnes(t *testing.T) {
	d := rand.New(rand.NewSource(2))
	for _, n := range []int{1<<16 - 65, 1<<16 - 64, 1<<16 - 1, 1 << 16, 1<<16 + 1, 1<<16 + 64, 1<<17 + 65} {
		b := anyBytes(d, n)
		hold(t, 32, nil, b)
		hold(t, 17, anyBytes(d, 9), b)
	}
	b := make([]byte, 1<<24+1)
	same(t, "2^24 + 1 noughts", sum(b), unhex(t, "cddb826fa6592770f61402dbc6b884d3f52bf0e786b63e86c87810113cc74757"))
	same(t, "2^24 + 1 noughts", of(t, 20, []byte("key"), b), unhex(t, "a41728f462ffe738a977754f9e9e0128eccd60a3"))
}

func TestP71EachBit(t *testing.T) {
	d := rand.New(rand.NewSource(3))
	for _, n := range []int{64, 65, 128, 129} {
		key, b := anyBytes(d, 32), anyBytes(d, n)
		was := of(t, 32, key, b)
		for bit := range 8 * n {
			b[bit/8] ^= 1 << (bit % 8)
			if bytes.Equal(of(t, 32, key, b), was) {
				t.Errorf("the bit %d of %d bytes counts not", bit, n)
			}
			hold(t, 32, key, b)
			hold(t, 32, nil, b)
			b[bit/8] ^= 1 << (bit % 8)
		}
		for bit := range 256 {
			key[bit/8] ^= 1 << (bit % 8)
			if bytes.Equal(of(t, 32, key, b), was) {
				t.Errorf("the bit %d of the key counts not", bit)
			}
			hold(t, 32, key, b)
			key[bit/8] ^= 1 << (bit % 8)
		}
	}
}

// What is 0 is not nothing, neither behind a text nor behind a key; and a key is not what is taken in behind none.
func TestP71NoughtsCount(t *testing.T) {
	seen := map[string]string{}
	see := func(what string, digest []byte) {
		if was, met := seen[string(digest)]; met {
			t.Errorf("%s has the digest of %s", what, was)
		}
		seen[string(digest)] = what
	}
	for n := range 200 {
		see(strconv.Itoa(n)+" noughts", of(t, 32, nil, make([]byte, n)))
	}
	for k := 1; k <= 32; k++ {
		for _, n := range []int{0, 1, 63, 64, 65} {
			see(strconv.Itoa(n)+" noughts under "+strconv.Itoa(k), of(t, 32, make([]byte, k), make([]byte, n)))
		}
	}
	same(t, "under a nought", of(t, 32, make([]byte, 1), nil), unhex(t, "cdcf93dac5437c31bf1e79a8398fbbddd1cef4427428ced165264455a9c48a95"))
	same(t, "under 32 noughts", of(t, 32, make([]byte, 32), nil), unhex(t, "cc8ed046995def3f21db6abcfe34c3526960be9dd3270ed1ab7cfc7f29ad4bd6"))
}

// A digest of fewer bytes is not the beginning of one of more.
func TestP71SizesCount(t *testing.T) {
	for size := 4; size < 32; size++ {
		for more := size + 1; more <= 32; more++ {
			if bytes.HasPrefix(of(t, more, nil, []byte("abc")), of(t, size, nil, []byte("abc"))) {
				t.Errorf("%d bytes are the beginning of %d", size, more)
			}
		}
	}
	same(t, "1", of(t, 1, nil, nil), unhex(t, "a1"))
	same(t, "1 under a key", of(t, 1, []byte("k"), nil), unhex(t, "7b"))
	same(t, "16 under a key", of(t, 16, bytes.Repeat([]byte("k"), 32), []byte("abc")), unhex(t, "da5b50d8f2073c6d2bc49dc3f556bde3"))
	same(t, "31", of(t, 31, nil, []byte("abc")), unhex(t, "6ffb901930ebaf1d3cabe0b60c20de3bc9dd26269325629f1671304fe6bb26"))
}

// A key without bytes is none, and a text without bytes is none, too.
func TestP71WithoutBytes(t *testing.T) {
	d := rand.New(rand.NewSource(4))
	none := [][]byte{nil, {}, make([]byte, 0, 64), anyBytes(d, 40)[:0]}
	for _, n := range lengths {
		b := anyBytes(d, n)
		for _, key := range none {
			same(t, "no key", of(t, 32, key, b), sum(b))
			same(t, "no key", inPieces(t, 32, key, b), sum(b))
		}
	}
	for _, k := range keys {
		key := anyBytes(d, k)
		for _, b := range none {
			same(t, "no text", of(t, 32, key, b), expected(32, key, nil))
			same(t, "no text", made(t, 32, key).Sum(), expected(32, key, nil))
		}
	}
}

// wrongSizes are those that there are not, and some that a narrow number would take for others.
var wrongSizes = []int{0, -1, -2, -31, -32, -33, 33, 34, 63, 64, 65, 128, 255, 256, 257, 288, 1<<16 + 1, 1<<32 + 1, 1<<32 + 32, -1<<32 + 1, math.MinInt, math.MinInt + 1, math.MinInt + 32, math.MaxInt, math.MaxInt - 1}

// wrongKeys are lengths that no key has.
var wrongKeys = []int{33, 34, 63, 64, 65, 128, 255, 256, 257, 288, 4096, 1<<16 + 1}

// refused holds that both Of and New answer ErrArg, and nothing else.
func refused(t testing.TB, size int, key, b []byte) {
	t.Helper()
	if out, e := blake.Of(size, key, b); e != api.ErrArg || len(out) != 0 {
		t.Errorf("Of(%d, %d bytes, %d bytes): %x, %d, not ErrArg alone", size, len(key), len(b), out, e)
	}
	if h, e := blake.New(size, key); e != api.ErrArg || h != nil {
		t.Errorf("New(%d, %d bytes): %v, %d, not ErrArg alone", size, len(key), h, e)
	}
}

// P7.1, and P7.2 for New.
func TestP71WrongSizesAndKeys(t *testing.T) {
	if api.ErrArg != 2 {
		t.Fatal("ErrArg is not 2")
	}
	d := rand.New(rand.NewSource(5))
	for _, size := range wrongSizes {
		for _, k := range append(slices.Clone(keys), wrongKeys...) {
			refused(t, size, anyBytes(d, k), anyBytes(d, 70))
			refused(t, size, make([]byte, k), nil)
		}
	}
	for size := 1; size <= 32; size++ {
		for _, k := range wrongKeys {
			refused(t, size, anyBytes(d, k), anyBytes(d, 70))
			refused(t, size, make([]byte, k), nil)
		}
	}
	for _, size := range []int{1, 2, 31, 32} {
		for _, k := range keys {
			hold(t, size, anyBytes(d, k), []byte("abc"))
		}
	}
	// Room behind a key is not the key.
	hold(t, 32, anyBytes(d, 64)[:32], nil)
}

// P7.2

func TestP72SumCanGoOn(t *testing.T) {
	d := rand.New(rand.NewSource(6))
	for _, k := range keys {
		for range 4 {
			size, key, b := 1+d.Intn(32), anyBytes(d, k), anyBytes(d, 200)
			h := made(t, size, key)
			same(t, "nothing was taken in", h.Sum(), expected(size, key, nil))
			for i := range b {
				h.Write(b[i : i+1])
				same(t, "so far", h.Sum(), expected(size, key, b[:i+1]))
			}
		}
	}
}

func TestP72HashesOfTheirOwn(t *testing.T) {
	d := rand.New(rand.NewSource(7))
	one, two := anyBytes(d, 32), anyBytes(d, 5)
	p, q, r := made(t, 32, one), made(t, 9, two), made(t, 32, one)
	var b, c []byte
	for range 40 {
		x, y := anyBytes(d, d.Intn(100)), anyBytes(d, d.Intn(100))
		p.Write(x)
		q.Write(y)
		b, c = append(b, x...), append(c, y...)
		same(t, "one", p.Sum(), expected(32, one, b))
		same(t, "another", q.Sum(), expected(9, two, c))
		same(t, "one that has taken nothing in", r.Sum(), expected(32, one, nil))
	}
}

func TestP72NoHash(t *testing.T) {
	d := rand.New(rand.NewSource(8))
	wrong, _ := blake.New(0, nil)
	for _, h := range []*blake.Hash{nil, {}, new(blake.Hash), wrong} {
		for _, n := range lengths {
			h.Write(anyBytes(d, n))
			h.Write(nil)
			for range 2 {
				if out := h.Sum(); len(out) != 0 {
					t.Errorf("no hash, %d bytes taken in: %x", n, out)
				}
			}
		}
		if h != nil && *h != (blake.Hash{}) {
			t.Error("something was written into none")
		}
	}
}

// P7.3

func TestP73WhatIsHandedInIsOnlyRead(t *testing.T) {
	d := rand.New(rand.NewSource(9))
	for _, k := range keys {
		for _, n := range lengths {
			room, behind := anyBytes(d, n+80), anyBytes(d, 100)
			was, wasBehind := bytes.Clone(room), bytes.Clone(behind)
			b, key := room[:n], behind[:k]
			of(t, 20, key, b)
			sum(b)
			h := made(t, 32, key)
			h.Write(b)
			h.Sum()
			h.Write(b)
			h.Sum()
			blake.Of(0, key, b)
			blake.Of(32, behind[:33], b)
			blake.New(33, key)
			same(t, "what was handed in, and its spare room", room, was)
			same(t, "a key, and its spare room", behind, wasBehind)
		}
	}
}

func turnedOver(b []byte) {
	for i := range b {
		b[i] ^= 255
	}
}

func TestP73WhatIsHandedInIsNotKept(t *testing.T) {
	d := rand.New(rand.NewSource(10))
	for _, k := range keys {
		for _, n := range lengths {
			key, b := anyBytes(d, k), anyBytes(d, n)
			want := expected(32, key, append(bytes.Clone(b), 1, 2, 3))
			h := made(t, 32, key)
			turnedOver(key)
			h.Write(b)
			turnedOver(b)
			h.Write([]byte{1, 2, 3})
			same(t, "what was changed behind that", h.Sum(), want)
		}
	}
}

func TestP73WhatIsAnsweredIsNew(t *testing.T) {
	d := rand.New(rand.NewSource(11))
	for _, size := range []int{1, 31, 32} {
		for _, k := range keys {
			for _, n := range lengths {
				key, b := anyBytes(d, k), anyBytes(d, n)
				want := expected(size, key, b)
				h := made(t, size, key)
				h.Write(b)
				one, two := h.Sum(), h.Sum()
				turnedOver(one[:cap(one)])
				same(t, "Sum ahead of that", two, want)
				same(t, "Sum behind that", h.Sum(), want)
				h.Write(one)
				same(t, "what was answered, taken in", h.Sum(), expected(size, key, append(bytes.Clone(b), one...)))
				three, four := of(t, size, key, b), of(t, size, key, b)
				turnedOver(three[:cap(three)])
				same(t, "Of ahead of that", four, want)
				same(t, "Of behind that", of(t, size, key, b), want)
			}
		}
	}
	for _, n := range lengths {
		b := anyBytes(d, n)
		turnedOver(sum(b))
		same(t, "Sum behind that", sum(b), expected(32, nil, b))
	}
	// What is answered is neither the key nor the bytes, not even a piece of them.
	handed := bytes.Repeat([]byte{9}, 32)
	turnedOver(of(t, 32, handed, handed))
	same(t, "what was handed in", handed, bytes.Repeat([]byte{9}, 32))
}

// P7.4

func TestP74EveryTwoPieces(t *testing.T) {
	d := rand.New(rand.NewSource(12))
	for n := range 200 {
		size, key, b := 1+d.Intn(32), anyBytes(d, keys[n%len(keys)]), anyBytes(d, n)
		want := of(t, size, key, b)
		same(t, "Of", want, expected(size, key, b))
		for cut := range n + 1 {
			same(t, "two pieces", inPieces(t, size, key, b[:cut], b[cut:]), want)
			h := made(t, size, key)
			h.Write(b[:cut])
			same(t, "the first", h.Sum(), of(t, size, key, b[:cut]))
			h.Write(b[cut:])
			same(t, "two pieces, asked between them", h.Sum(), want)
			same(t, "asked twice", h.Sum(), want)
		}
	}
}

// Pieces that end at a block's end, one byte ahead of it, and one behind it.
func TestP74EveryThreePieces(t *testing.T) {
	d := rand.New(rand.NewSource(13))
	for _, k := range []int{0, 1, 32} {
		for _, x := range lengths {
			for _, y := range lengths {
				for _, z := range []int{0, 1, 63, 64, 65, 128} {
					key, b := anyBytes(d, k), anyBytes(d, x+y+z)
					same(t, "three pieces", inPieces(t, 32, key, b[:x], b[x:x+y], b[x+y:]), of(t, 32, key, b))
				}
			}
		}
	}
}

func TestP74PiecesOfOneSize(t *testing.T) {
	d := rand.New(rand.NewSource(14))
	for _, piece := range []int{1, 2, 3, 5, 8, 13, 31, 32, 33, 63, 64, 65, 127, 128, 129} {
		for _, k := range keys {
			for _, n := range []int{63, 64, 65, 127, 128, 129, 640, 1000} {
				key, b := anyBytes(d, k), anyBytes(d, n)
				pieces := slices.Collect(slices.Chunk(b, piece))
				same(t, "pieces of one size", inPieces(t, 32, key, pieces...), expected(32, key, b))
			}
		}
	}
}

// Nothing that is taken in changes nothing, wherever it comes.
func TestP74PiecesWithoutBytes(t *testing.T) {
	d := rand.New(rand.NewSource(15))
	for _, k := range keys {
		key := anyBytes(d, k)
		for _, n := range []int{0, 1, 63, 64, 65, 127, 128, 129} {
			b := anyBytes(d, n)
			for cut := range n + 1 {
				same(t, "none between", inPieces(t, 32, key, nil, b[:cut], nil, []byte{}, b[cut:], b[:0], nil), expected(32, key, b))
			}
		}
		same(t, "none at all", inPieces(t, 32, key, nil, []byte{}, nil), expected(32, key, nil))
		same(t, "no piece", inPieces(t, 32, key), expected(32, key, nil))
	}
}

func TestP74AnyPieces(t *testing.T) {
	d := rand.New(rand.NewSource(16))
	for range 300 {
		size, key, b := 1+d.Intn(32), anyBytes(d, d.Intn(33)), anyBytes(d, d.Intn(1500))
		h := made(t, size, key)
		for from := 0; from < len(b); {
			to := min(len(b), from+d.Intn(150))
			h.Write(b[from:to])
			if d.Intn(3) == 0 {
				same(t, "so far", h.Sum(), expected(size, key, b[:to]))
			}
			from = to
		}
		same(t, "all", h.Sum(), of(t, size, key, b))
		same(t, "all, again", h.Sum(), expected(size, key, b))
	}
}

// R2: the same again, whatever was called ahead.
func TestR2TheSameAgain(t *testing.T) {
	d := rand.New(rand.NewSource(17))
	for range 200 {
		size, key, b := 1+d.Intn(32), anyBytes(d, d.Intn(33)), anyBytes(d, d.Intn(200))
		h := made(t, size, key)
		h.Write(b)
		once := h.Sum()
		of(t, 32, anyBytes(d, 32), anyBytes(d, 100))
		sum(b)
		blake.Of(33, key, b)
		made(t, size, anyBytes(d, 7)).Write(b)
		same(t, "Sum again", h.Sum(), once)
		same(t, "Of again", of(t, size, key, b), once)
		same(t, "another hash", inPieces(t, size, key, b), once)
	}
}

// The chapter's examples.

func TestExamples(t *testing.T) {
	same(t, "none", sum(nil), unhex(t, "69217a30 79908094 e11121d0 42354a7c 1f55b648 2ca1a51e 1b250dfd 1ed0eef9"))
	same(t, "abc", sum([]byte("abc")), unhex(t, "508c5e8c 327c14e2 e1a72ba3 4eeb452f 37458b20 9ed63a29 4d999b4c 86675982"))
	same(t, "under 0 to 31", of(t, 32, counted(0, 32), nil), unhex(t, "48a8997d a407876b 3d79c0d9 2325ad3b 89cbb754 d86ab71a ee047ad3 45fd2c49"))
	refused(t, 0, counted(0, 32), nil)
	refused(t, 33, counted(0, 32), nil)
	refused(t, 32, counted(0, 33), nil)
}
