package aead_test

import (
	"bytes"
	"crypto/sha256"
	"encoding/binary"
	"encoding/hex"
	"math"
	"math/rand"
	"strings"
	"testing"

	"causeway/aead"
	"causeway/api"
	"causeway/chacha"
	"causeway/poly"
)

// most is MaxOctets, as the chapter says it.
const most = 4096

// lengths are those at which a block begins or ends, a text is the longest, and one more.
var lengths = []int{0, 1, 15, 16, 17, 63, 64, 65, 4095, 4096, 4097}

func unhex(t testing.TB, text string) []byte {
	t.Helper()
	b, err := hex.DecodeString(strings.ReplaceAll(text, " ", ""))
	if err != nil {
		t.Fatal(err)
	}
	return b
}

func anyBytes(d *rand.Rand, n int) []byte {
	b := make([]byte, n)
	d.Read(b)
	return b
}

func anyKey(d *rand.Rand) api.Key {
	return api.Key(anyBytes(d, 32))
}

func anyNonce(d *rand.Rand) [12]byte {
	return [12]byte(anyBytes(d, 12))
}

// counted are n bytes, each one more than the one ahead of it.
func counted(from byte, n int) []byte {
	b := make([]byte, n)
	for i := range b {
		b[i] = from + byte(i)
	}
	return b
}

func xored(a, b []byte) []byte {
	out := make([]byte, min(len(a), len(b)))
	for i := range out {
		out[i] = a[i] ^ b[i]
	}
	return out
}

func same(t testing.TB, what string, got, want []byte) {
	t.Helper()
	if !bytes.Equal(got, want) {
		t.Errorf("%s: %d bytes, %.40x, not %d, %.40x", what, len(got), got, len(want), want)
	}
}

func seal(t testing.TB, key api.Key, nonce [12]byte, ad, text []byte) []byte {
	t.Helper()
	box, e := aead.Seal(key, nonce, ad, text)
	if e != api.OK {
		t.Errorf("Seal of %d and %d bytes: %d", len(ad), len(text), e)
	}
	return box
}

func open(t testing.TB, key api.Key, nonce [12]byte, ad, box []byte) []byte {
	t.Helper()
	text, e := aead.Open(key, nonce, ad, box)
	if e != api.OK {
		t.Errorf("Open of %d and %d bytes: %d", len(ad), len(box), e)
	}
	return text
}

// refused holds that there is that error, and nothing else.
func refused(t testing.TB, what string, b []byte, e, want api.Errno) {
	t.Helper()
	if e != want || len(b) != 0 {
		t.Errorf("%s: %d bytes, %d, not %d alone", what, len(b), e, want)
	}
}

func shut(t testing.TB, what string, key api.Key, nonce [12]byte, ad, box []byte) {
	t.Helper()
	text, e := aead.Open(key, nonce, ad, box)
	refused(t, what, text, e, api.ErrOpen)
}

func filledUp(b []byte) []byte {
	for len(b)%16 != 0 {
		b = append(b, 0)
	}
	return b
}

// tagged is the tag of these bytes, under the first half of the block 0.
func tagged(key api.Key, nonce [12]byte, list []byte) []byte {
	block := chacha.Block(key, 0, nonce)
	tag := poly.Tag(api.Key(block[:32]), list)
	return tag[:]
}

// listed is what a tag is of, as the chapter tells it, in one list.
func listed(ad, part []byte) []byte {
	list := filledUp(bytes.Clone(ad))
	list = filledUp(append(list, part...))
	list = binary.LittleEndian.AppendUint64(list, uint64(len(ad)))
	return binary.LittleEndian.AppendUint64(list, uint64(len(part)))
}

// expected is the box, as the chapter tells it, of any length.
func expected(key api.Key, nonce [12]byte, ad, text []byte) []byte {
	part, _ := chacha.Xor(key, 1, nonce, text)
	return append(part, tagged(key, nonce, listed(ad, part))...)
}

// P6.1

func TestP61Nonce(t *testing.T) {
	for _, c := range []struct {
		n    int
		want string
	}{
		{0, "00000000 0000000000000000"},
		{1, "00000000 0100000000000000"},
		{255, "00000000 ff00000000000000"},
		{256, "00000000 0001000000000000"},
		{258, "00000000 0201000000000000"},
		{1<<32 - 1, "00000000 ffffffff00000000"},
		{1 << 32, "00000000 0000000001000000"},
		{0x0a0b0c0d0e0f10, "00000000 100f0e0d0c0b0a00"},
		{1<<53 - 2, "00000000 feffffffffff1f00"},
		{1<<53 - 1, "00000000 ffffffffffff1f00"},
		{api.MaxNumber, "00000000 ffffffffffff1f00"},
	} {
		got, e := aead.Nonce(c.n)
		if e != api.OK {
			t.Errorf("Nonce(%d): %d", c.n, e)
		}
		same(t, "Nonce", got[:], unhex(t, c.want))
	}
}

func TestP61NonceOfAny(t *testing.T) {
	d := rand.New(rand.NewSource(1))
	for i := range 3000 {
		n := int(d.Int63() >> (10 + i%54))
		got, e := aead.Nonce(n)
		var want [12]byte
		binary.LittleEndian.PutUint64(want[4:], uint64(n))
		if e != api.OK || got != want {
			t.Errorf("Nonce(%d): %x, %d, not %x", n, got, e, want)
		}
	}
}

func TestP61NumbersThatHaveNone(t *testing.T) {
	list := []int{-1, -2, -255, -256, -1 << 32, -api.MaxNumber, 1 << 53, api.MaxNumber + 1, 1<<53 + 1, math.MaxInt, math.MaxInt - 1, math.MinInt, math.MinInt + 1, math.MinInt + api.MaxNumber}
	for bit := 53; bit < 63; bit++ {
		list = append(list, 1<<bit, 1<<bit+1, -1<<bit)
	}
	for _, n := range list {
		if got, e := aead.Nonce(n); e != api.ErrRange || got != [12]byte{} {
			t.Errorf("Nonce(%d): %x, %d, not ErrRange alone", n, got, e)
		}
	}
}

// P6.2

const sunscreen = "Ladies and Gentlemen of the class of '99: If I could offer you only one tip for the future, sunscreen would be it."

const drafts = "Internet-Drafts are draft documents valid for a maximum of six months and may be updated, replaced, or obsoleted by other documents at any time. It is inappropriate to use Internet-Drafts as reference material or to cite them other than as /\u201cwork in progress./\u201d"

// sample is what was sealed, and the box.
type sample struct {
	key   api.Key
	nonce [12]byte
	ad    []byte
	text  string
	box   []byte
}

// standard are those of RFC 8439: 2.8.2, and the appendix A.5.
func standard(t testing.TB) []sample {
	return []sample{
		{
			api.Key(counted(0x80, 32)), [12]byte(unhex(t, "07000000 4041424344454647")), unhex(t, "50515253c0c1c2c3c4c5c6c7"), sunscreen,
			unhex(t, "d31a8d34648e60db7b86afbc53ef7ec2a4aded51296e08fea9e2b5a736ee62d63dbea45e8ca9671282fafb69da92728b1a71de0a9e060b2905d6a5b67ecd3b3692ddbd7f2d778b8c9803aee328091b58fab324e4fad675945585808b4831d7bc3ff4def08e4b7a9de576d26586cec64b6116 1ae10b594f09e26a7e902ecbd0600691"),
		},
		{
			api.Key(unhex(t, "1c9240a5eb55d38af333888604f6b5f0473917c1402b80099dca5cbc207075c0")), [12]byte(unhex(t, "00000000 0102030405060708")), unhex(t, "f33388860000000000004e91"), drafts,
			unhex(t, "64a0861575861af460f062c79be643bd5e805cfd345cf389f108670ac76c8cb24c6cfc18755d43eea09ee94e382d26b0bdb7b73c321b0100d4f03b7f355894cf332f830e710b97ce98c8a84abd0b948114ad176e008d33bd60f982b1ff37c8559797a06ef4f0ef61c186324e2b3506383606907b6a7c02b0f9f6157b53c867e4b9166c767b804d46a59b5216cde7a4e99040c5a40433225ee282a1b0a06c523eaf4534d7f83fa1155b0047718cbc546a0d072b04b3564eea1b422273f548271a0bb2316053fa76991955ebd63159434ecebb4e466dae5a1073a6727627097a1049e617d91d361094fa68f0ff77987130305beaba2eda04df997b714d6c6f2c29a6ad5cb4022b02709b eead9d67890cbb22392336fea1851f38"),
		},
	}
}

// W6
func TestP62BoxesOfTheStandard(t *testing.T) {
	for _, s := range standard(t) {
		same(t, "Seal", seal(t, s.key, s.nonce, s.ad, []byte(s.text)), s.box)
		same(t, "what the tests expect", expected(s.key, s.nonce, s.ad, []byte(s.text)), s.box)
	}
}

func TestP62EachTwoLengths(t *testing.T) {
	d := rand.New(rand.NewSource(2))
	for _, a := range lengths {
		for _, n := range lengths {
			key, nonce, ad, text := anyKey(d), anyNonce(d), anyBytes(d, a), anyBytes(d, n)
			box, e := aead.Seal(key, nonce, ad, text)
			if a > most || n > most {
				refused(t, "more than there may be", box, e, api.ErrLimit)
				continue
			}
			if e != api.OK {
				t.Errorf("Seal of %d and %d bytes: %d", a, n, e)
			}
			same(t, "Seal", box, expected(key, nonce, ad, text))
		}
	}
}

func TestP62SmallLengths(t *testing.T) {
	d := rand.New(rand.NewSource(3))
	key, nonce := anyKey(d), anyNonce(d)
	for a := range 70 {
		for n := range 70 {
			ad, text := anyBytes(d, a), anyBytes(d, n)
			same(t, "Seal", seal(t, key, nonce, ad, text), expected(key, nonce, ad, text))
		}
	}
}

// What another program has for the same: the digest of its boxes, one behind the other.
func TestP62WhatAnotherProgramTells(t *testing.T) {
	all := sha256.New()
	for i, a := range lengths[:len(lengths)-1] {
		for j, n := range lengths[:len(lengths)-1] {
			key, nonce := api.Key(counted(byte(i), 32)), [12]byte(counted(byte(j), 12))
			all.Write(seal(t, key, nonce, counted(byte(i+j), a), counted(byte(7*i+j), n)))
		}
	}
	same(t, "all boxes", all.Sum(nil), unhex(t, "683faa0f68c7a71f0fb26c9692ca3d1d6089f41801ed8f4694bbc582f307d86a"))
}

func TestP62WhatIsTooLong(t *testing.T) {
	for _, c := range []struct{ ad, text int }{
		{most + 1, 0}, {0, most + 1}, {most + 1, most}, {most, most + 1}, {most + 1, most + 1},
		{most + 16, 0}, {0, most + 16}, {0, most + 17}, {1 << 16, 0}, {0, 1 << 16}, {1<<16 + 1, 1}, {1, 1<<16 + 1}, {1 << 20, 1 << 20},
	} {
		box, e := aead.Seal(api.Key{1}, [12]byte{2}, make([]byte, c.ad), make([]byte, c.text))
		refused(t, "Seal", box, e, api.ErrLimit)
	}
}

// Nothing is nothing, nil or not; a text of none has a box of 16 bytes.
func TestP62NoBytes(t *testing.T) {
	none := [][]byte{nil, {}, make([]byte, 0, 40)}
	want := expected(api.Key{1}, [12]byte{2}, nil, nil)
	if len(want) != 16 {
		t.Errorf("a box of no bytes has %d", len(want))
	}
	for _, ad := range none {
		for _, text := range none {
			box := seal(t, api.Key{1}, [12]byte{2}, ad, text)
			same(t, "Seal of none", box, want)
			same(t, "Open of that", open(t, api.Key{1}, [12]byte{2}, ad, box), nil)
		}
	}
}

// The text begins with the block 1: the block 0 is seen nowhere in the first part.
func TestP62TheTextBeginsWithTheBlock1(t *testing.T) {
	d := rand.New(rand.NewSource(4))
	for range 30 {
		key, nonce := anyKey(d), anyNonce(d)
		box := seal(t, key, nonce, nil, make([]byte, 200))
		for i := range 3 {
			block := chacha.Block(key, uint32(i+1), nonce)
			same(t, "a block", box[64*i:64*i+64], block[:])
		}
		block := chacha.Block(key, 0, nonce)
		if bytes.Contains(box, block[:16]) || bytes.Contains(box, block[16:32]) {
			t.Error("a tag's key can be seen")
		}
	}
}

// P6.3

// W6
func TestP63BoxesOfTheStandard(t *testing.T) {
	for _, s := range standard(t) {
		same(t, "Open", open(t, s.key, s.nonce, s.ad, s.box), []byte(s.text))
	}
}

func TestP63EachTwoLengths(t *testing.T) {
	d := rand.New(rand.NewSource(5))
	for _, a := range lengths {
		for _, n := range lengths {
			key, nonce, ad, text := anyKey(d), anyNonce(d), anyBytes(d, a), anyBytes(d, n)
			got, e := aead.Open(key, nonce, ad, expected(key, nonce, ad, text))
			if a > most || n > most {
				refused(t, "a box of more than there may be", got, e, api.ErrLimit)
				continue
			}
			if e != api.OK {
				t.Errorf("Open of %d bytes and the box of %d: %d", a, n, e)
			}
			same(t, "Open", got, text)
		}
	}
}

// The errors, in their order: what is too long, what is too short, what does not open.
func TestP63LengthsOfBoxes(t *testing.T) {
	for _, c := range []struct {
		ad, box int
		want    api.Errno
	}{
		{0, 0, api.ErrTrunc}, {0, 1, api.ErrTrunc}, {0, 14, api.ErrTrunc}, {0, 15, api.ErrTrunc},
		{0, 16, api.ErrOpen}, {0, 17, api.ErrOpen}, {0, 32, api.ErrOpen},
		{0, most, api.ErrOpen}, {0, most + 1, api.ErrOpen}, {0, most + 15, api.ErrOpen}, {0, most + 16, api.ErrOpen},
		{0, most + 17, api.ErrLimit}, {0, most + 32, api.ErrLimit}, {0, 1 << 16, api.ErrLimit}, {0, 1<<16 + 16, api.ErrLimit}, {0, 1 << 20, api.ErrLimit},
		{most, 0, api.ErrTrunc}, {most, 15, api.ErrTrunc}, {most, 16, api.ErrOpen}, {most, most + 16, api.ErrOpen}, {most, most + 17, api.ErrLimit},
		{most + 1, 0, api.ErrLimit}, {most + 1, 15, api.ErrLimit}, {most + 1, 16, api.ErrLimit}, {most + 1, most + 16, api.ErrLimit}, {most + 1, most + 17, api.ErrLimit},
		{most + 16, 16, api.ErrLimit}, {1 << 16, 0, api.ErrLimit}, {1 << 20, 1 << 20, api.ErrLimit},
	} {
		text, e := aead.Open(api.Key{3}, [12]byte{4}, make([]byte, c.ad), make([]byte, c.box))
		refused(t, "Open", text, e, c.want)
	}
	text, e := aead.Open(api.Key{3}, [12]byte{4}, nil, nil)
	refused(t, "Open of nil", text, e, api.ErrTrunc)
}

// others tries a thing with each of its bits being another one.
func others(b []byte, try func(bit int)) {
	for bit := range 8 * len(b) {
		b[bit/8] ^= 1 << (bit % 8)
		try(bit)
		b[bit/8] ^= 1 << (bit % 8)
	}
}

func TestP63EachBitOfABox(t *testing.T) {
	d := rand.New(rand.NewSource(6))
	for _, n := range []int{0, 1, 15, 16, 17, 63, 64, 65, 200, most} {
		key, nonce, ad, text := anyKey(d), anyNonce(d), anyBytes(d, n%50), anyBytes(d, n)
		box := seal(t, key, nonce, ad, text)
		others(box, func(bit int) {
			shut(t, "a box with another bit", key, nonce, ad, box)
		})
		same(t, "Open, with all bits as they were", open(t, key, nonce, ad, box), text)
	}
}

func TestP63AnotherKeyNonceOrAd(t *testing.T) {
	d := rand.New(rand.NewSource(7))
	for _, a := range []int{0, 1, 15, 16, 17, 40} {
		for _, n := range []int{0, 1, 16, 65} {
			key, nonce, ad, text := anyKey(d), anyNonce(d), anyBytes(d, a), anyBytes(d, n)
			box := seal(t, key, nonce, ad, text)
			others(key[:], func(bit int) { shut(t, "another key", key, nonce, ad, box) })
			others(nonce[:], func(bit int) { shut(t, "another nonce", key, nonce, ad, box) })
			others(ad, func(bit int) { shut(t, "another ad", key, nonce, ad, box) })
			for i := range ad {
				shut(t, "a shorter ad", key, nonce, ad[:i], box)
				shut(t, "a shorter ad", key, nonce, ad[i+1:], box)
			}
			for i := 1; i < 40; i++ {
				shut(t, "noughts behind ad", key, nonce, append(bytes.Clone(ad), make([]byte, i)...), box)
				shut(t, "bytes behind ad", key, nonce, append(bytes.Clone(ad), counted(1, i)...), box)
				shut(t, "noughts ahead of ad", key, nonce, append(make([]byte, i), ad...), box)
			}
			same(t, "Open, with all as it was", open(t, key, nonce, ad, box), text)
		}
	}
}

func TestP63LongerAndShorterBoxes(t *testing.T) {
	d := rand.New(rand.NewSource(8))
	for _, n := range []int{0, 1, 15, 16, 17, 48, 100} {
		key, nonce, ad, text := anyKey(d), anyNonce(d), anyBytes(d, 20), anyBytes(d, n)
		box := seal(t, key, nonce, ad, text)
		part, tag := box[:n], box[n:]
		for i := range n {
			shut(t, "the first bytes", key, nonce, ad, box[:16+i])
			shut(t, "the last bytes", key, nonce, ad, box[n-i:])
			shut(t, "a shorter first part", key, nonce, ad, append(bytes.Clone(part[:i]), tag...))
		}
		for i := 1; i < 40; i++ {
			more := make([]byte, i)
			shut(t, "noughts behind it", key, nonce, ad, append(bytes.Clone(box), more...))
			shut(t, "noughts ahead of it", key, nonce, ad, append(bytes.Clone(more), box...))
			shut(t, "noughts ahead of the tag", key, nonce, ad, append(append(bytes.Clone(part), more...), tag...))
		}
	}
}

// No byte goes from ad to the first part, or back: their lengths, and what they are filled up with, are of the tag.
func TestP63BytesThatMove(t *testing.T) {
	d := rand.New(rand.NewSource(9))
	key, nonce := anyKey(d), anyNonce(d)
	all := anyBytes(d, 64)
	for cut := range len(all) + 1 {
		text, _ := chacha.Xor(key, 1, nonce, all[cut:])
		box := seal(t, key, nonce, all[:cut], text)
		same(t, "the first part", box[:len(text)], all[cut:])
		for other := range len(all) + 1 {
			moved := append(bytes.Clone(all[other:]), box[len(text):]...)
			if other != cut {
				shut(t, "bytes that moved", key, nonce, all[:other], moved)
			}
		}
	}
}

// Boxes that are nearly as the chapter has them: other orders, other lengths, another block.
func TestP63TagsOfOtherBytes(t *testing.T) {
	d := rand.New(rand.NewSource(10))
	key, nonce, ad, text := anyKey(d), anyNonce(d), anyBytes(d, 21), anyBytes(d, 35)
	part, _ := chacha.Xor(key, 1, nonce, text)
	lengthsOf := func(order binary.AppendByteOrder, size, a, b int) []byte {
		if size == 4 {
			return order.AppendUint32(order.AppendUint32(nil, uint32(a)), uint32(b))
		}
		return order.AppendUint64(order.AppendUint64(nil, uint64(a)), uint64(b))
	}
	joined := func(lists ...[]byte) []byte { return bytes.Join(lists, nil) }
	a, p := filledUp(bytes.Clone(ad)), filledUp(bytes.Clone(part))
	lowest, highest := binary.LittleEndian, binary.BigEndian
	for i, list := range [][]byte{
		joined(ad, part),
		joined(a, p),
		joined(ad, part, lengthsOf(lowest, 8, 21, 35)),
		joined(a, part, lengthsOf(lowest, 8, 21, 35)),
		joined(ad, p, lengthsOf(lowest, 8, 21, 35)),
		joined(p, a, lengthsOf(lowest, 8, 35, 21)),
		joined(p, a, lengthsOf(lowest, 8, 21, 35)),
		joined(a, p, lengthsOf(lowest, 8, 35, 21)),
		joined(a, p, lengthsOf(highest, 8, 21, 35)),
		joined(a, p, lengthsOf(lowest, 4, 21, 35)),
		joined(a, p, lengthsOf(lowest, 8, 32, 48)),
		joined(a, p, lengthsOf(lowest, 8, 168, 280)),
		joined(a, filledUp(bytes.Clone(text)), lengthsOf(lowest, 8, 21, 35)),
		joined(a, make([]byte, 16), p, lengthsOf(lowest, 8, 21, 35)),
		joined(lengthsOf(lowest, 8, 21, 35), a, p),
	} {
		box := append(bytes.Clone(part), tagged(key, nonce, list)...)
		if _, e := aead.Open(key, nonce, ad, box); e != api.ErrOpen {
			t.Errorf("the list %d: %d, not ErrOpen", i, e)
		}
	}
	block := chacha.Block(key, 0, nonce)
	for _, other := range []api.Key{key, api.Key(block[32:]), {}} {
		tag := poly.Tag(other, listed(ad, part))
		shut(t, "a tag under another key", key, nonce, ad, append(bytes.Clone(part), tag[:]...))
	}
	shut(t, "the tag ahead", key, nonce, ad, append(tagged(key, nonce, listed(ad, part)), part...))
}

// Whole blocks are not filled up: 16 noughts behind them would be another tag.
func TestP63WholeBlocks(t *testing.T) {
	d := rand.New(rand.NewSource(11))
	key, nonce, ad, text := anyKey(d), anyNonce(d), anyBytes(d, 32), anyBytes(d, 48)
	part, _ := chacha.Xor(key, 1, nonce, text)
	end := binary.LittleEndian.AppendUint64(binary.LittleEndian.AppendUint64(nil, 32), 48)
	whole := append(append(bytes.Clone(ad), part...), end...)
	same(t, "Seal", seal(t, key, nonce, ad, text), append(bytes.Clone(part), tagged(key, nonce, whole)...))
	more := append(append(append(bytes.Clone(ad), make([]byte, 16)...), part...), end...)
	shut(t, "16 noughts behind ad", key, nonce, ad, append(bytes.Clone(part), tagged(key, nonce, more)...))
	more = append(append(append(bytes.Clone(ad), part...), make([]byte, 16)...), end...)
	shut(t, "16 noughts behind the first part", key, nonce, ad, append(bytes.Clone(part), tagged(key, nonce, more)...))
}

// P6.4

func TestP64WhatIsHandedInIsOnlyRead(t *testing.T) {
	d := rand.New(rand.NewSource(12))
	for _, n := range []int{0, 1, 15, 16, 17, 64, 65, most, most + 1} {
		adRoom, textRoom := anyBytes(d, n+60), anyBytes(d, n+60)
		adWas, textWas := bytes.Clone(adRoom), bytes.Clone(textRoom)
		key, nonce := anyKey(d), anyNonce(d)
		k, o := key, nonce
		aead.Seal(key, nonce, adRoom[:n], textRoom[:n])
		same(t, "ad, and its spare room", adRoom, adWas)
		same(t, "a text, and its spare room", textRoom, textWas)

		box := expected(key, nonce, adRoom[:n], textRoom[:n])
		room := append(bytes.Clone(box), anyBytes(d, 60)...)
		was := bytes.Clone(room)
		aead.Open(key, nonce, adRoom[:n], room[:len(box)])
		same(t, "a box, and its spare room", room, was)
		// One that does not open.
		room[0] ^= 1
		was[0] ^= 1
		aead.Open(key, nonce, adRoom[:n], room[:len(box)])
		same(t, "a box that does not open, and its spare room", room, was)
		same(t, "ad, and its spare room, behind Open", adRoom, adWas)
		if key != k || nonce != o {
			t.Error("a key or a nonce was changed")
		}
	}
}

func TestP64WhatIsHandedInIsNotKept(t *testing.T) {
	d := rand.New(rand.NewSource(13))
	for _, n := range []int{0, 1, 16, 50, most} {
		key, nonce, ad, text := anyKey(d), anyNonce(d), anyBytes(d, n), anyBytes(d, n)
		was := bytes.Clone(text)
		box := seal(t, key, nonce, ad, text)
		kept, handed := bytes.Clone(box), bytes.Clone(box)
		out := open(t, key, nonce, ad, handed)
		for i := range n {
			ad[i] ^= 255
			text[i] ^= 255
		}
		for i := range handed {
			handed[i] ^= 255
		}
		same(t, "a box that was answered ahead", box, kept)
		same(t, "a text that was answered ahead", out, was)
	}
}

func TestP64WhatIsAnsweredIsNew(t *testing.T) {
	d := rand.New(rand.NewSource(14))
	key, nonce := anyKey(d), anyNonce(d)
	for _, n := range []int{0, 1, 16, 50, most} {
		ad, text := anyBytes(d, 30), anyBytes(d, n)
		box := expected(key, nonce, ad, text)
		given, ofText, ofAd := bytes.Clone(box), bytes.Clone(text), bytes.Clone(ad)
		for _, call := range []func() []byte{
			func() []byte { return seal(t, key, nonce, ad, text) },
			func() []byte { return open(t, key, nonce, ad, given) },
		} {
			one, two := call(), call()
			want := bytes.Clone(two)
			same(t, "twice", one, two)
			for i := range one {
				one[i] ^= 255
			}
			one = append(one, 1, 2, 3)
			same(t, "another answer", two, want)
			two = append(two, 4, 5, 6)
			same(t, "behind an answer", one[len(one)-3:], []byte{1, 2, 3})
			same(t, "an answer behind that", call(), want)
		}
		same(t, "the box", given, box)
		same(t, "the text", text, ofText)
		same(t, "ad", ad, ofAd)
	}
	one, _ := aead.Nonce(5)
	one[4] = 99
	if two, _ := aead.Nonce(5); two != [12]byte{4: 5} {
		t.Errorf("Nonce behind that: %x", two)
	}
}

// A text may be its own ad, or share memory with it.
func TestP64WhatIsHandedInTwice(t *testing.T) {
	d := rand.New(rand.NewSource(15))
	key, nonce, room := anyKey(d), anyNonce(d), anyBytes(d, 100)
	for from := range 60 {
		ad, text := room[from/2:from/2+30], room[from:from+40]
		box := seal(t, key, nonce, ad, text)
		same(t, "Seal", box, expected(key, nonce, bytes.Clone(ad), bytes.Clone(text)))
		same(t, "Open", open(t, key, nonce, ad, box), text)
	}
	text := anyBytes(d, 40)
	both := expected(key, nonce, text, text)
	same(t, "a text as its own ad", seal(t, key, nonce, text, text), both)
	first := both[:40]
	part := append(bytes.Clone(first), tagged(key, nonce, listed(first, first))...)
	same(t, "a box with its first part as ad", open(t, key, nonce, part[:40], part), text)
}

// P6.5 (W6)

func TestP65ThereAndBack(t *testing.T) {
	d := rand.New(rand.NewSource(16))
	for range 1000 {
		key, nonce, ad, text := anyKey(d), anyNonce(d), anyBytes(d, d.Intn(100)), anyBytes(d, d.Intn(300))
		box := seal(t, key, nonce, ad, text)
		if len(box) != len(text)+16 || aead.Overhead != 16 {
			t.Errorf("the box of %d bytes has %d", len(text), len(box))
		}
		same(t, "there and back", open(t, key, nonce, ad, box), text)
	}
}

func TestP65NoncesOfNumbers(t *testing.T) {
	d := rand.New(rand.NewSource(17))
	key, ad, text := anyKey(d), anyBytes(d, 9), anyBytes(d, 40)
	list := []int{0, 1, 2, 255, 256, 1 << 31, 1 << 32, 1 << 52, api.MaxNumber - 1, api.MaxNumber}
	for _, n := range list {
		nonce, _ := aead.Nonce(n)
		box := seal(t, key, nonce, ad, text)
		for _, m := range list {
			other, _ := aead.Nonce(m)
			if m == n {
				same(t, "by its number", open(t, key, other, ad, box), text)
				continue
			}
			shut(t, "by another number", key, other, ad, box)
		}
	}
}

func TestP65EachTextHasABoxOfItsOwn(t *testing.T) {
	d := rand.New(rand.NewSource(18))
	key, nonce, ad := anyKey(d), anyNonce(d), anyBytes(d, 5)
	seen := map[string]bool{}
	meet := func(text []byte) {
		box := string(seal(t, key, nonce, ad, text))
		if seen[box] {
			t.Errorf("the box of %x was met before", text)
		}
		seen[box] = true
	}
	for n := range 200 {
		meet(make([]byte, n))
	}
	for b := 1; b < 256; b++ {
		meet([]byte{byte(b)})
		meet([]byte{0, byte(b)})
	}
	some := anyBytes(d, 40)
	others(some, func(int) { meet(some) })
	meet(some)
}

// Whatever opens is the box of what comes out: no other one opens to that.
func TestP65WhatOpensIsTheBoxOfWhatComesOut(t *testing.T) {
	d := rand.New(rand.NewSource(19))
	opened := 0
	for range 4000 {
		key, nonce, ad := anyKey(d), anyNonce(d), anyBytes(d, d.Intn(40))
		box := expected(key, nonce, ad, anyBytes(d, d.Intn(60)))
		switch d.Intn(4) {
		case 0:
			box = anyBytes(d, d.Intn(60))
		case 1:
			box[d.Intn(len(box))] ^= byte(d.Intn(4))
		}
		text, e := aead.Open(key, nonce, ad, box)
		if e != api.OK {
			continue
		}
		opened++
		same(t, "the box of what came out", seal(t, key, nonce, ad, text), box)
	}
	if opened < 1000 {
		t.Errorf("only %d opened", opened)
	}
}

// P6.6

func TestP66AnotherTagAlone(t *testing.T) {
	d := rand.New(rand.NewSource(20))
	for _, n := range []int{0, 1, 16, 50} {
		key, nonce, ad, text := anyKey(d), anyNonce(d), anyBytes(d, 12), anyBytes(d, n)
		box := seal(t, key, nonce, ad, text)
		part, tag := box[:n], box[n:]
		with := func(other []byte) {
			t.Helper()
			if !bytes.Equal(other, tag) {
				shut(t, "another tag", key, nonce, ad, append(bytes.Clone(part), other...))
			}
		}
		for i := range tag {
			for by := 1; by < 256; by++ {
				other := bytes.Clone(tag)
				other[i] ^= byte(by)
				with(other)
			}
			for j := range i {
				// Two that differ in the same way, and two that change places.
				other := bytes.Clone(tag)
				other[i] ^= 128
				other[j] ^= 128
				with(other)
				other = bytes.Clone(tag)
				other[i], other[j] = other[j], other[i]
				with(other)
			}
			with(append(bytes.Clone(tag[:i]), make([]byte, 16-i)...))
		}
		for range 500 {
			with(anyBytes(d, 16))
		}
		with(tagged(key, nonce, listed(nil, part)))
		with(tagged(key, nonce, listed(ad, nil)))
		with(seal(t, key, nonce, ad, append(bytes.Clone(text), 0))[n+1:])
		same(t, "the tag as it was", open(t, key, nonce, ad, append(bytes.Clone(part), tag...)), text)
	}
}

func TestP66FirstPartsDifferWhereTextsDo(t *testing.T) {
	d := rand.New(rand.NewSource(21))
	for range 300 {
		key, nonce := anyKey(d), anyNonce(d)
		one, two := anyBytes(d, d.Intn(200)), anyBytes(d, d.Intn(200))
		a, b := seal(t, key, nonce, anyBytes(d, 7), one), seal(t, key, nonce, anyBytes(d, 9), two)
		n := min(len(one), len(two))
		same(t, "how both differ", xored(a[:n], b[:n]), xored(one, two))
		alike := bytes.Clone(one)
		if n > 0 {
			alike[n-1] ^= 1
			c := seal(t, key, nonce, nil, alike)
			want := make([]byte, len(one))
			want[n-1] = 1
			same(t, "where one byte differs", xored(a[:len(one)], c[:len(one)]), want)
		}
	}
}

// The first part hangs not on ad, the tag does.
func TestP66OtherAds(t *testing.T) {
	d := rand.New(rand.NewSource(22))
	key, nonce, text := anyKey(d), anyNonce(d), anyBytes(d, 50)
	seen := map[string]bool{}
	for n := range 100 {
		box := seal(t, key, nonce, make([]byte, n), text)
		same(t, "the first part", box[:50], xored(text, seal(t, key, nonce, nil, make([]byte, 50))))
		if seen[string(box[50:])] {
			t.Errorf("the tag with %d noughts as ad was met before", n)
		}
		seen[string(box[50:])] = true
	}
}

// R1: whatever it is handed.
func TestR1AnyLengths(t *testing.T) {
	d := rand.New(rand.NewSource(23))
	for range 500 {
		ad, b := anyBytes(d, d.Intn(5000)), anyBytes(d, d.Intn(5000))
		long := len(ad) > most || len(b) > most
		if box, e := aead.Seal(anyKey(d), anyNonce(d), ad, b); (e == api.ErrLimit) != long || (e == api.OK) == long {
			t.Errorf("Seal of %d and %d bytes: %d bytes, %d", len(ad), len(b), len(box), e)
		}
		want := api.ErrOpen
		switch {
		case len(ad) > most || len(b) > most+16:
			want = api.ErrLimit
		case len(b) < 16:
			want = api.ErrTrunc
		}
		text, e := aead.Open(anyKey(d), anyNonce(d), ad, b)
		refused(t, "Open of any", text, e, want)
	}
}

// R2: the same again, whatever was called ahead.
func TestR2TheSameAgain(t *testing.T) {
	d := rand.New(rand.NewSource(24))
	for range 200 {
		key, nonce, ad, text := anyKey(d), anyNonce(d), anyBytes(d, d.Intn(40)), anyBytes(d, d.Intn(100))
		once := seal(t, key, nonce, ad, text)
		seal(t, anyKey(d), nonce, ad, text)
		seal(t, key, nonce, text, ad)
		aead.Seal(key, nonce, ad, make([]byte, most+1))
		aead.Open(key, nonce, ad, make([]byte, 16))
		aead.Open(key, nonce, ad, nil)
		aead.Nonce(-1)
		same(t, "Seal again", seal(t, key, nonce, ad, text), once)
		same(t, "Open", open(t, key, nonce, ad, once), text)
		same(t, "Open again", open(t, key, nonce, ad, once), text)
	}
}

// The chapter's examples.

func TestExamples(t *testing.T) {
	key, nonce := api.Key(counted(0x80, 32)), [12]byte(unhex(t, "07000000 4041424344454647"))
	ad := unhex(t, "50515253 c0c1c2c3c4c5c6c7")
	box := seal(t, key, nonce, ad, []byte(sunscreen))
	same(t, "the first 16 bytes", box[:16], unhex(t, "d31a8d34648e60db7b86afbc53ef7ec2"))
	same(t, "the last 16", box[len(box)-16:], unhex(t, "1ae10b594f09e26a7e902ecbd0600691"))

	for n, want := range map[int]string{1: "00000000 01000000 00000000", 258: "00000000 02010000 00000000"} {
		got, e := aead.Nonce(n)
		if e != api.OK {
			t.Errorf("Nonce(%d): %d", n, e)
		}
		same(t, "Nonce", got[:], unhex(t, want))
	}
	if got, e := aead.Nonce(-1); e != api.ErrRange || got != [12]byte{} {
		t.Errorf("Nonce(-1): %x, %d", got, e)
	}

	same(t, "Open", open(t, key, nonce, ad, box), []byte(sunscreen))
	box[len(box)-1] = 0x90
	shut(t, "Open with the last byte 90", key, nonce, ad, box)
	text, e := aead.Open(key, nonce, ad, box[:15])
	refused(t, "Open of 15 bytes", text, e, api.ErrTrunc)
}
