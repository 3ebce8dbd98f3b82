package cipher_test

import (
	"bytes"
	"crypto/sha256"
	"encoding/binary"
	"encoding/hex"
	"math"
	"math/rand"
	"slices"
	"strconv"
	"strings"
	"testing"

	"causeway/aead"
	"causeway/api"
	"causeway/chacha"
	"causeway/cipher"
)

// greatest is MaxNumber, as the chapter says it: of a state that has it next no box comes any more.
const greatest = 1<<53 - 1

// most is MaxOctets.
const most = 4096

// numbers are all kinds of numbers that boxes have.
var numbers = []int{0, 1, 2, 255, 256, 65536, 1<<32 - 1, 1 << 32, 1 << 52, greatest - 2, greatest - 1}

// outside are numbers that no box has.
var outside = []int{-1, -2, -256, math.MinInt32, -greatest, math.MinInt + 1, math.MinInt,
	greatest, greatest + 1, greatest + 2, 1<<54 - 1, math.MaxInt - 1, math.MaxInt}

func unhex(t testing.TB, text string) []byte {
	t.Helper()
	b, err := hex.DecodeString(strings.ReplaceAll(text, " ", ""))
	if err != nil {
		t.Fatal(err)
	}
	return b
}

func anyBytes(d *rand.Rand, n int) []byte {
	b := make([]byte, n)
	d.Read(b)
	return b
}

func anyKey(d *rand.Rand) api.Key {
	return api.Key(anyBytes(d, 32))
}

// counted are n bytes, each one more than the one ahead of it.
func counted(from byte, n int) []byte {
	b := make([]byte, n)
	for i := range b {
		b[i] = from + byte(i)
	}
	return b
}

// key is that of the chapter's examples: 01 .. 20.
func key() api.Key {
	return api.Key(counted(1, 32))
}

func turnedOver(b []byte) {
	for i := range b {
		b[i] ^= 255
	}
}

func same(t testing.TB, what string, got, want []byte) {
	t.Helper()
	if !bytes.Equal(got, want) {
		t.Errorf("%s: %d bytes, %.40x, not %d, %.40x", what, len(got), got, len(want), want)
	}
}

// refused holds that there is that error, and nothing else.
func refused(t testing.TB, what string, b []byte, e, want api.Errno) {
	t.Helper()
	if e != want || len(b) != 0 {
		t.Errorf("%s: %d bytes, %d, not %d alone", what, len(b), e, want)
	}
}

func errs(t testing.TB, what string, e, want api.Errno) {
	t.Helper()
	if e != want {
		t.Errorf("%s: %d, not %d", what, e, want)
	}
}

// nonceOf is that of a number, as RFC 8439 and Noise have it.
func nonceOf(n int) (nonce [12]byte) {
	binary.LittleEndian.PutUint64(nonce[4:], uint64(n))
	return nonce
}

// boxOf is the box of a number.
func boxOf(t testing.TB, key api.Key, n int, ad, text []byte) []byte {
	t.Helper()
	box, e := aead.Seal(key, nonceOf(n), ad, text)
	if e != api.OK {
		t.Fatalf("aead.Seal of %d and %d bytes: %d", len(ad), len(text), e)
	}
	return box
}

// behind is the key behind a key: bytes 0 are sealed as the key stream itself, from the block 1 on.
func behind(key api.Key) api.Key {
	nonce := [12]byte{4: 255, 5: 255, 6: 255, 7: 255, 8: 255, 9: 255, 10: 255, 11: 255}
	block := chacha.Block(key, 1, nonce)
	return api.Key(block[:32])
}

func behindTimes(key api.Key, times int) api.Key {
	for range times {
		key = behind(key)
	}
	return key
}

// at is a state of that key, with that number next.
func at(t testing.TB, key api.Key, n int) *cipher.State {
	t.Helper()
	s := cipher.New(key)
	errs(t, "Skip("+strconv.Itoa(n)+") of a new one", s.Skip(n), api.OK)
	return s
}

// isAt holds that a state has that key, and that number next; it leaves it as it is.
func isAt(t testing.TB, what string, s *cipher.State, key api.Key, n int) {
	t.Helper()
	if s.Next() != n {
		t.Errorf("%s: the next number is %d, not %d", what, s.Next(), n)
	}
	got, e := s.OpenAt(7, []byte("whose"), boxOf(t, key, 7, []byte("whose"), []byte("the key's")))
	if e != api.OK || string(got) != "the key's" {
		t.Errorf("%s: it has another key (%d)", what, e)
	}
	if s.Next() != n {
		t.Errorf("%s: the next number became %d by OpenAt", what, s.Next())
	}
}

func seal(t testing.TB, s *cipher.State, ad, text []byte) []byte {
	t.Helper()
	n := s.Next()
	box, e := s.Seal(ad, text)
	if e != api.OK || s.Next() != n+1 {
		t.Errorf("Seal of %d and %d bytes at %d: %d, next %d", len(ad), len(text), n, e, s.Next())
	}
	return box
}

func open(t testing.TB, s *cipher.State, ad, box []byte) []byte {
	t.Helper()
	n := s.Next()
	text, e := s.Open(ad, box)
	if e != api.OK || s.Next() != n+1 {
		t.Errorf("Open of %d and %d bytes at %d: %d, next %d", len(ad), len(box), n, e, s.Next())
	}
	return text
}

func openAt(t testing.TB, s *cipher.State, n int, ad, box []byte) []byte {
	t.Helper()
	was := s.Next()
	text, e := s.OpenAt(n, ad, box)
	if e != api.OK || s.Next() != was {
		t.Errorf("OpenAt(%d) of %d and %d bytes: %d, next %d, not %d", n, len(ad), len(box), e, s.Next(), was)
	}
	return text
}

// P9.1

func TestP91New(t *testing.T) {
	d := rand.New(rand.NewSource(1))
	for _, k := range []api.Key{{}, key(), api.Key(bytes.Repeat([]byte{255}, 32)), {1}, {31: 128}, anyKey(d)} {
		s := cipher.New(k)
		if s == nil {
			t.Fatal("New answers nil")
		}
		isAt(t, "a new one", s, k, 0)
		same(t, "its first box", seal(t, s, []byte("ad"), []byte("x")), boxOf(t, k, 0, []byte("ad"), []byte("x")))
		errs(t, "Rekey", s.Rekey(), api.OK)
		isAt(t, "one that was keyed again", s, behind(k), 1)
	}
}

func TestP91EachIsOneOfItsOwn(t *testing.T) {
	a, b := cipher.New(key()), cipher.New(key())
	seal(t, a, nil, nil)
	errs(t, "Skip", a.Skip(9), api.OK)
	errs(t, "Rekey", a.Rekey(), api.OK)
	isAt(t, "the other one", b, key(), 0)
	isAt(t, "the one", a, behind(key()), 9)
}

// isNone holds that all calls of a state answer that it is none.
func isNone(t testing.TB, what string, s *cipher.State) {
	t.Helper()
	boxes := [][]byte{nil, {}, make([]byte, 15), make([]byte, 16), boxOf(t, api.Key{}, 0, nil, []byte("x")),
		boxOf(t, key(), 0, nil, []byte("x")), make([]byte, most), make([]byte, most+1), make([]byte, most+17)}
	for _, b := range boxes {
		for _, ad := range [][]byte{nil, []byte("ad"), make([]byte, most+1)} {
			got, e := s.Seal(ad, b)
			refused(t, what+": Seal", got, e, api.ErrNil)
			got, e = s.Open(ad, b)
			refused(t, what+": Open", got, e, api.ErrNil)
			for _, n := range append(slices.Clone(numbers), outside...) {
				got, e = s.OpenAt(n, ad, b)
				refused(t, what+": OpenAt", got, e, api.ErrNil)
			}
		}
	}
	for _, n := range append(slices.Clone(numbers), outside...) {
		errs(t, what+": Skip", s.Skip(n), api.ErrNil)
	}
	errs(t, what+": Rekey", s.Rekey(), api.ErrNil)
	if s.Next() != 0 {
		t.Errorf("%s: Next is %d", what, s.Next())
	}
}

func TestP91None(t *testing.T) {
	zero, field := new(cipher.State), struct{ s cipher.State }{}
	for range 2 {
		isNone(t, "nil", nil)
		isNone(t, "a zero one", zero)
		isNone(t, "a zero one within", &field.s)
	}
}

// P9.2

// What another program (OpenSSL's ChaCha20-Poly1305) has for the same.
func TestP92BoxesOfAnotherProgram(t *testing.T) {
	for _, c := range []struct {
		n       int
		x, none string
	}{
		{0, "1bcf489c97771b050cf55cd2e36222fc68", "733a3e1ce01720ce28474b290e208086"},
		{1, "186c86719d64ac836d444438777c56b822", "89241ca16472fd9f24371891a660ddf2"},
		{2, "104c3795274ea04a34d372185dc3ce8e07", "05ba55308001a5b02867798ee9542948"},
		{255, "e71401423562c859cfc7a8abd607e07604", "28946065928c44a3ac50fc04c9ccf48f"},
		{256, "708cb0e384cc20c5240fd3117685ea9feb", "1216793ada0cdb9853853f28a010f7ea"},
		{65536, "ffd6b1be4d24c48189b2c44b89b39aa07e", "b9c099c9b7398cd4ef189a8f0ca295a9"},
		{1<<32 - 1, "302680681f26757c82a8af076332f3f5fc", "369716927214bbe97e47a21d7fdba2e0"},
		{1 << 32, "3aa847b1c9b8a274fe9b2ba71fbce31328", "e92392be6ccd83ecfac055699d782f1d"},
		{1 << 52, "e106dcffe0cab264cea0f995eabf5c10b5", "a9c56652f843c608e039c3841dc61a74"},
		{greatest - 2, "c567769d1b04adf9d02e8872cc87466370", "1ffa33789cc542637928b44b2c6ea46a"},
		{greatest - 1, "3e6bbefa62d4b81d59d7f560f600d4aa78", "6bad1ec83fc45c7c9489b9f81022106d"},
	} {
		x, none := unhex(t, c.x), unhex(t, c.none)
		same(t, "a box", seal(t, at(t, key(), c.n), nil, []byte("x")), x)
		same(t, "a box of nothing", seal(t, at(t, key(), c.n), []byte("ad"), nil), none)
		same(t, "what is in the box", open(t, at(t, key(), c.n), nil, x), []byte("x"))
		same(t, "what is in no text's", open(t, at(t, key(), c.n), []byte("ad"), none), nil)
		same(t, "by its number", openAt(t, cipher.New(key()), c.n, nil, x), []byte("x"))
		same(t, "by its number, no text", openAt(t, cipher.New(key()), c.n, []byte("ad"), none), nil)
	}
}

// Another program's again: the SHA-256 of its boxes, one behind the other.
func TestP92WhatAnotherProgramHas(t *testing.T) {
	all, s, r := sha256.New(), cipher.New(key()), cipher.New(key())
	both := func(ad, text []byte) {
		box := seal(t, s, ad, text)
		all.Write(box)
		same(t, "what is in it", open(t, r, ad, box), text)
	}
	for n := range 300 {
		both(counted(byte(n), n%70), counted(3, n))
	}
	for _, n := range []int{0, 1, 15, 16, 17, 63, 64, 65, 4095, 4096} {
		both(counted(1, n), counted(2, n))
	}
	same(t, "boxes of a new one", all.Sum(nil), unhex(t, "dbe5d9d2a3064821724168289dc687b5e43887198fe1ea58fbeadbfccb3cab91"))
	all.Reset()
	s, r = at(t, key(), greatest-40), at(t, key(), greatest-40)
	for n := greatest - 40; n < greatest; n++ {
		both(nil, counted(1, n&63))
	}
	same(t, "the last boxes", all.Sum(nil), unhex(t, "d5f11b22ffa3d2839441037f772e9fb9fa23bfcd513cfc92742282892810154f"))
}

func TestP92EachLength(t *testing.T) {
	lengths := []int{0, 1, 2, 15, 16, 17, 63, 64, 65, 4095, 4096}
	s, r := cipher.New(key()), cipher.New(key())
	for _, a := range lengths {
		for _, n := range lengths {
			number := s.Next()
			ad, text := counted(1, a), counted(2, n)
			box := seal(t, s, ad, text)
			same(t, "the box", box, boxOf(t, key(), number, ad, text))
			same(t, "the text", open(t, r, ad, box), text)
		}
	}
	isAt(t, "the one that sealed", s, key(), len(lengths)*len(lengths))
	isAt(t, "the one that opened", r, key(), len(lengths)*len(lengths))
}

func TestP92WhatIsTooLong(t *testing.T) {
	for _, n := range numbers {
		s := at(t, key(), n)
		for _, long := range []int{most + 1, most + 2, most + 15, most + 16, most + 17, 1 << 16} {
			got, e := s.Seal(nil, make([]byte, long))
			refused(t, "a long text", got, e, api.ErrLimit)
			got, e = s.Seal(make([]byte, long), nil)
			refused(t, "a long ad", got, e, api.ErrLimit)
			got, e = s.Open(make([]byte, long), boxOf(t, key(), n, nil, []byte("x")))
			refused(t, "a long ad, Open", got, e, api.ErrLimit)
			got, e = s.Open(make([]byte, long), nil)
			refused(t, "a long ad, no box", got, e, api.ErrLimit)
			got, e = s.Open(nil, make([]byte, long+16))
			refused(t, "a long box", got, e, api.ErrLimit)
			isAt(t, "behind what is too long", s, key(), n)
		}
		if text := make([]byte, most); n < greatest-1 {
			box := seal(t, s, text, text)
			same(t, "the longest text", openAt(t, s, n, text, box), text)
		}
	}
}

func TestP92LengthsOfBoxes(t *testing.T) {
	for _, n := range numbers {
		s := at(t, key(), n)
		for _, size := range []int{0, 1, 2, 14, 15} {
			for _, box := range [][]byte{make([]byte, size), boxOf(t, key(), n, nil, nil)[:size], boxOf(t, key(), n, nil, nil)[16-size:]} {
				got, e := s.Open(nil, box)
				refused(t, "a short box", got, e, api.ErrTrunc)
				got, e = s.Open(make([]byte, most+1), box)
				refused(t, "a short box with a long ad", got, e, api.ErrLimit)
			}
			isAt(t, "behind a short box", s, key(), n)
		}
		got, e := s.Open(nil, nil)
		refused(t, "no box", got, e, api.ErrTrunc)
		for _, size := range []int{16, 17, most + 16} {
			got, e := s.Open(nil, make([]byte, size))
			refused(t, "bytes 0", got, e, api.ErrOpen)
			isAt(t, "behind bytes 0", s, key(), n)
		}
		same(t, "16 bytes", openAt(t, s, n, nil, boxOf(t, key(), n, nil, nil)), nil)
		same(t, "17 bytes", open(t, s, nil, boxOf(t, key(), n, nil, []byte("x"))), []byte("x"))
	}
}

func TestP92EachBit(t *testing.T) {
	for _, n := range []int{0, 1, greatest - 1} {
		for _, text := range [][]byte{nil, []byte("x"), counted(9, 40)} {
			box, s := boxOf(t, key(), n, []byte("ad"), text), at(t, key(), n)
			for bit := range 8 * len(box) {
				box[bit/8] ^= 1 << (bit % 8)
				got, e := s.Open([]byte("ad"), box)
				refused(t, "a box with one bit turned", got, e, api.ErrOpen)
				got, e = s.OpenAt(n, []byte("ad"), box)
				refused(t, "a box with one bit turned, OpenAt", got, e, api.ErrOpen)
				isAt(t, "behind a turned bit", s, key(), n)
				box[bit/8] ^= 1 << (bit % 8)
			}
			same(t, "the box as it was", open(t, s, []byte("ad"), box), text)
		}
	}
}

// A box opens by its own number, key and ad alone.
func TestP92OtherNumbersKeysAndAds(t *testing.T) {
	d := rand.New(rand.NewSource(2))
	for _, n := range numbers {
		for _, other := range numbers {
			s := at(t, key(), n)
			got, e := s.Open(nil, boxOf(t, key(), other, nil, []byte("x")))
			if n == other {
				same(t, "its own number", got, []byte("x"))
				continue
			}
			refused(t, "another number's box", got, e, api.ErrOpen)
			isAt(t, "behind another number's box", s, key(), n)
		}
		s := at(t, key(), n)
		for _, ad := range [][]byte{[]byte("ae"), []byte("a"), []byte("ad\x00"), nil} {
			got, e := s.Open(ad, boxOf(t, key(), n, []byte("ad"), []byte("x")))
			refused(t, "another ad", got, e, api.ErrOpen)
		}
		for _, k := range []api.Key{{}, behind(key()), anyKey(d)} {
			got, e := s.Open(nil, boxOf(t, k, n, nil, []byte("x")))
			refused(t, "another key's box", got, e, api.ErrOpen)
		}
		isAt(t, "behind all of them", s, key(), n)
	}
}

// One number serves both: what seals and what opens goes on alike.
func TestP92SealAndOpenShareTheNumber(t *testing.T) {
	s := cipher.New(key())
	for n := 0; n < 40; n += 2 {
		same(t, "sealed", seal(t, s, nil, []byte("x")), boxOf(t, key(), n, nil, []byte("x")))
		same(t, "opened", open(t, s, nil, boxOf(t, key(), n+1, nil, []byte("y"))), []byte("y"))
	}
	isAt(t, "behind both", s, key(), 40)
}

// isSpent holds that a state seals and opens nothing, whatever it is handed.
func isSpent(t testing.TB, what string, s *cipher.State, key api.Key) {
	t.Helper()
	for range 2 {
		for _, size := range []int{0, 1, 15, 16, 17, most, most + 1, most + 17} {
			for _, ad := range [][]byte{nil, []byte("ad"), make([]byte, most+1)} {
				got, e := s.Seal(ad, make([]byte, size))
				refused(t, what+": Seal", got, e, api.ErrSpent)
				got, e = s.Open(ad, make([]byte, size))
				refused(t, what+": Open", got, e, api.ErrSpent)
			}
		}
		for _, n := range []int{0, greatest - 1, greatest} {
			got, e := s.Open(nil, boxOf(t, key, n, nil, []byte("x")))
			refused(t, what+": Open of a box", got, e, api.ErrSpent)
		}
		isAt(t, what, s, key, greatest)
	}
}

func TestP92Spent(t *testing.T) {
	skipped := at(t, key(), greatest)
	isSpent(t, "skipped", skipped, key())
	sealed := at(t, key(), greatest-2)
	same(t, "the last but one", seal(t, sealed, nil, []byte("x")), boxOf(t, key(), greatest-2, nil, []byte("x")))
	same(t, "the last one", seal(t, sealed, nil, []byte("x")), boxOf(t, key(), greatest-1, nil, []byte("x")))
	isSpent(t, "sealed", sealed, key())
	opened := at(t, key(), greatest-1)
	same(t, "the last one", open(t, opened, nil, boxOf(t, key(), greatest-1, nil, []byte("x"))), []byte("x"))
	isSpent(t, "opened", opened, key())
	errs(t, "Rekey", opened.Rekey(), api.OK)
	isSpent(t, "keyed again", opened, behind(key()))
}

// P9.3

func TestP93OpenAtAnyNumber(t *testing.T) {
	for _, next := range append(slices.Clone(numbers), greatest) {
		s := at(t, key(), next)
		for range 2 {
			for _, n := range numbers {
				same(t, "by its number", openAt(t, s, n, []byte("ad"), boxOf(t, key(), n, []byte("ad"), counted(1, 70))), counted(1, 70))
				same(t, "no text", openAt(t, s, n, nil, boxOf(t, key(), n, nil, nil)), nil)
				same(t, "a long text", openAt(t, s, n, nil, boxOf(t, key(), n, nil, counted(1, most))), counted(1, most))
			}
		}
		isAt(t, "behind OpenAt", s, key(), next)
	}
}

func TestP93OpenAtOfNoNumber(t *testing.T) {
	boxes := [][]byte{nil, make([]byte, 15), make([]byte, 16), make([]byte, most+17), boxOf(t, key(), 0, nil, []byte("x")),
		boxOf(t, key(), greatest, nil, []byte("x"))}
	for _, next := range []int{0, 1, greatest - 1, greatest} {
		s := at(t, key(), next)
		for _, n := range outside {
			for _, box := range append(boxes, boxOf(t, key(), n, nil, []byte("x"))) {
				for _, ad := range [][]byte{nil, make([]byte, most+1)} {
					got, e := s.OpenAt(n, ad, box)
					refused(t, "OpenAt("+strconv.Itoa(n)+")", got, e, api.ErrRange)
				}
			}
		}
		isAt(t, "behind numbers that are none", s, key(), next)
	}
}

func TestP93OpenAtErrors(t *testing.T) {
	for _, next := range []int{0, 1, greatest} {
		s := at(t, key(), next)
		for _, n := range numbers {
			for _, size := range []int{0, 1, 15} {
				got, e := s.OpenAt(n, nil, make([]byte, size))
				refused(t, "a short box", got, e, api.ErrTrunc)
			}
			for _, size := range []int{16, 17, most + 16} {
				got, e := s.OpenAt(n, nil, make([]byte, size))
				refused(t, "bytes 0", got, e, api.ErrOpen)
			}
			got, e := s.OpenAt(n, nil, make([]byte, most+17))
			refused(t, "a long box", got, e, api.ErrLimit)
			got, e = s.OpenAt(n, make([]byte, most+1), boxOf(t, key(), n, nil, nil))
			refused(t, "a long ad", got, e, api.ErrLimit)
			got, e = s.OpenAt(n, nil, boxOf(t, behind(key()), n, nil, []byte("x")))
			refused(t, "another key's box", got, e, api.ErrOpen)
			got, e = s.OpenAt(n, []byte("ad"), boxOf(t, key(), n, nil, []byte("x")))
			refused(t, "another ad", got, e, api.ErrOpen)
			for _, other := range numbers {
				if got, e = s.OpenAt(n, nil, boxOf(t, key(), other, nil, []byte("x"))); n != other {
					refused(t, "another number's box", got, e, api.ErrOpen)
				}
			}
		}
		isAt(t, "behind what did not open", s, key(), next)
	}
}

func TestP93Skip(t *testing.T) {
	all := append(slices.Clone(numbers), greatest)
	for i, from := range all {
		for _, to := range all[i:] {
			s := at(t, key(), from)
			errs(t, "Skip", s.Skip(to), api.OK)
			isAt(t, "skipped", s, key(), to)
			if to < greatest {
				same(t, "its box", seal(t, s, nil, []byte("x")), boxOf(t, key(), to, nil, []byte("x")))
			} else {
				isSpent(t, "skipped", s, key())
			}
		}
		s := at(t, key(), from)
		for _, to := range append([]int{from - 1}, all[:i]...) {
			errs(t, "Skip back", s.Skip(to), api.ErrRange)
			isAt(t, "behind Skip back", s, key(), from)
		}
		for _, to := range outside {
			if to != greatest {
				errs(t, "Skip("+strconv.Itoa(to)+")", s.Skip(to), api.ErrRange)
				isAt(t, "behind Skip", s, key(), from)
			}
		}
		for range 3 {
			errs(t, "Skip to the next one", s.Skip(from), api.OK)
			isAt(t, "behind Skip to the next one", s, key(), from)
		}
	}
}

// What was taken by a box is behind it, for Skip too.
func TestP93SkipBehindBoxes(t *testing.T) {
	s := cipher.New(key())
	for n := 1; n < 20; n++ {
		seal(t, s, nil, nil)
		for back := range n {
			errs(t, "Skip back", s.Skip(back), api.ErrRange)
		}
		errs(t, "Skip", s.Skip(n), api.OK)
		isAt(t, "behind Skip", s, key(), n)
	}
}

func TestP93Next(t *testing.T) {
	for _, n := range append(slices.Clone(numbers), greatest) {
		s := at(t, key(), n)
		for range 3 {
			if s.Next() != n {
				t.Errorf("Next is %d, not %d", s.Next(), n)
			}
		}
		isAt(t, "behind Next", s, key(), n)
	}
}

// What another program has as the keys behind keys.
func TestP93KeysOfAnotherProgram(t *testing.T) {
	full := api.Key(bytes.Repeat([]byte{255}, 32))
	for _, c := range []struct {
		from  api.Key
		times int
		want  string
	}{
		{key(), 1, "7f637be6f9d22510eccc1e8a598740cec00b4bb7657d85fe79833cfa50d09601"},
		{key(), 2, "93d0d21c1df51e932c4f17b1e1cb344fcae90c5cac50c9cefe37c196c38844cc"},
		{key(), 3, "d389719f189aaee84b32533b53866596890ca391669fb3ffb297f63c22367d83"},
		{key(), 1000, "2cb69f5c0e549d0ed55dc924a3b190cc8384f9756e6b36003593251abfc7e938"},
		{api.Key{}, 1, "25ce5d37df19f3783185f2ffd5ab17fa3397c212f02d62fb1733e0b875b74c58"},
		{api.Key{}, 2, "d1e632dbd6a7b804e9081d223e165e115256a9d13b11d90e7b707790362ff2e0"},
		{api.Key{}, 1000, "21435433eabc2e93facf2573dac8b7591766e52ea0a107df0d93acb930b3602c"},
		{full, 1, "5bac2acd86a836c5dc98c116c1217ec31d3a63a9451319f097f3b4d6dab07787"},
		{full, 1000, "55083d772fc21561ce548efd4e5467dfc369f1a513e84080e28c569f7e93f0f5"},
	} {
		want := api.Key(unhex(t, c.want))
		if behindTimes(c.from, c.times) != want {
			t.Errorf("what the tests expect behind %x is another key", c.from)
		}
		s := at(t, c.from, 5)
		for range c.times {
			errs(t, "Rekey", s.Rekey(), api.OK)
		}
		isAt(t, "keyed again", s, want, 5)
		same(t, "its box", seal(t, s, nil, []byte("x")), boxOf(t, want, 5, nil, []byte("x")))
	}
	all, s := sha256.New(), cipher.New(key())
	for range 100 {
		all.Write(seal(t, s, nil, []byte("x")))
		errs(t, "Rekey", s.Rekey(), api.OK)
	}
	same(t, "boxes of each key", all.Sum(nil), unhex(t, "199e780d2f110139526afd3cf07c69795bce107b6b3f7b88d4d6027bacce5108"))
}

// The key behind a key is that of aead's words.
func TestP93RekeyAsAeadHasIt(t *testing.T) {
	d := rand.New(rand.NewSource(3))
	nonce := [12]byte(append(make([]byte, 4), bytes.Repeat([]byte{0xff}, 8)...))
	for range 200 {
		from := anyKey(d)
		box, _ := aead.Seal(from, nonce, nil, make([]byte, 32))
		s := at(t, from, d.Intn(100))
		errs(t, "Rekey", s.Rekey(), api.OK)
		isAt(t, "keyed again", s, api.Key(box[:32]), s.Next())
		if behind(from) != api.Key(box[:32]) {
			t.Errorf("what the tests expect behind %x is another key", from)
		}
	}
}

func TestP93RekeyAtEachNumber(t *testing.T) {
	for _, n := range append(slices.Clone(numbers), greatest) {
		s := at(t, key(), n)
		for times := 1; times < 4; times++ {
			errs(t, "Rekey", s.Rekey(), api.OK)
			isAt(t, "keyed again", s, behindTimes(key(), times), n)
			got, e := s.OpenAt(3, nil, boxOf(t, behindTimes(key(), times-1), 3, nil, []byte("x")))
			refused(t, "a box of the key ahead", got, e, api.ErrOpen)
		}
	}
}

// P9.4

// roomy is a copy of bytes with spare room before and behind; look holds that neither they nor it changed.
func roomy(b []byte) (part []byte, look func(t testing.TB, what string)) {
	room := bytes.Repeat([]byte{0xa5}, len(b)+64)
	copy(room[16:], b)
	was := bytes.Clone(room)
	return room[16 : 16+len(b)], func(t testing.TB, what string) {
		t.Helper()
		same(t, what, room, was)
	}
}

func TestP94WhatIsHandedInIsOnlyRead(t *testing.T) {
	for _, size := range []int{0, 1, 15, 16, 17, 64, most, most + 1} {
		for _, long := range []int{0, 1, 17, most, most + 1} {
			s, r := cipher.New(key()), cipher.New(key())
			ad, lookAd := roomy(counted(1, long))
			text, lookText := roomy(counted(2, size))
			box, e := s.Seal(ad, text)
			lookAd(t, "ad, behind Seal")
			lookText(t, "text, behind Seal")
			if e != api.OK {
				box = counted(3, size)
			}
			in, lookIn := roomy(box)
			r.OpenAt(0, ad, in)
			r.OpenAt(1, ad, in)
			r.OpenAt(-1, ad, in)
			r.Open(ad, in)
			r.Open(ad, in)
			at(t, key(), greatest).Open(ad, in)
			at(t, key(), greatest).Seal(ad, in)
			lookAd(t, "ad, behind Open")
			lookIn(t, "box, behind Open")
		}
	}
}

func TestP94WhatIsHandedInIsNotKept(t *testing.T) {
	k := key()
	s, r := cipher.New(k), cipher.New(k)
	turnedOver(k[:])
	isAt(t, "behind its key was turned", s, key(), 0)
	for n := range 5 {
		ad, text := counted(1, 20), counted(2, 50)
		box := seal(t, s, ad, text)
		turnedOver(ad)
		turnedOver(text)
		same(t, "the box", box, boxOf(t, key(), n, counted(1, 20), counted(2, 50)))
		in := bytes.Clone(box)
		ad = counted(1, 20)
		got, again := open(t, r, ad, in), openAt(t, r, n, ad, in)
		turnedOver(ad)
		turnedOver(in)
		same(t, "the text", got, counted(2, 50))
		same(t, "the text again", again, counted(2, 50))
		isAt(t, "the one that sealed", s, key(), n+1)
		isAt(t, "the one that opened", r, key(), n+1)
	}
}

func TestP94WhatIsAnsweredIsNew(t *testing.T) {
	s, r := cipher.New(key()), cipher.New(key())
	for n := range 5 {
		box := seal(t, s, nil, counted(2, 50))
		kept := bytes.Clone(box)
		got, again := open(t, r, nil, box), openAt(t, r, n, nil, box)
		turnedOver(got[:cap(got)])
		same(t, "another answer", again, counted(2, 50))
		same(t, "the box", box, kept)
		turnedOver(box[:cap(box)])
		same(t, "another answer, behind the box was turned", again, counted(2, 50))
		same(t, "the box again", openAt(t, r, n, nil, kept), counted(2, 50))
		isAt(t, "the one that sealed", s, key(), n+1)
		isAt(t, "the one that opened", r, key(), n+1)
	}
}

// One list may be handed in as both.
func TestP94WhatIsHandedInTwice(t *testing.T) {
	b := counted(4, 60)
	s, r := cipher.New(key()), cipher.New(key())
	box := seal(t, s, b, b)
	same(t, "the box", box, boxOf(t, key(), 0, counted(4, 60), counted(4, 60)))
	same(t, "the text", open(t, r, b, box), b)
	got, e := r.OpenAt(0, box, box)
	refused(t, "the box as its ad", got, e, api.ErrOpen)
	same(t, "the list", b, counted(4, 60))
}

// wrong is a call that answers an error, and what it answers.
type wrong struct {
	what string
	want api.Errno
	call func(s *cipher.State) ([]byte, api.Errno)
}

// wrongs are errors of all calls, of a state whose number is from 1 to MaxNumber - 1.
func wrongs(t testing.TB) []wrong {
	long, x := make([]byte, most+1), boxOf(t, key(), 1<<40, nil, []byte("x"))
	at := func(n int, ad, box []byte) func(*cipher.State) ([]byte, api.Errno) {
		return func(s *cipher.State) ([]byte, api.Errno) { return s.OpenAt(n, ad, box) }
	}
	open := func(ad, box []byte) func(*cipher.State) ([]byte, api.Errno) {
		return func(s *cipher.State) ([]byte, api.Errno) { return s.Open(ad, box) }
	}
	return []wrong{
		{"Seal of a long text", api.ErrLimit, func(s *cipher.State) ([]byte, api.Errno) { return s.Seal(nil, long) }},
		{"Seal with a long ad", api.ErrLimit, func(s *cipher.State) ([]byte, api.Errno) { return s.Seal(long, nil) }},
		{"Open with a long ad", api.ErrLimit, open(long, x)},
		{"Open of a long box", api.ErrLimit, open(nil, make([]byte, most+17))},
		{"Open of nothing", api.ErrTrunc, open(nil, nil)},
		{"Open of 15 bytes", api.ErrTrunc, open(nil, make([]byte, 15))},
		{"Open of another number's box", api.ErrOpen, open(nil, x)},
		{"OpenAt(-1)", api.ErrRange, at(-1, nil, x)},
		{"OpenAt of the greatest number", api.ErrRange, at(greatest, nil, x)},
		{"OpenAt of the least int", api.ErrRange, at(math.MinInt, nil, x)},
		{"OpenAt of the greatest int", api.ErrRange, at(math.MaxInt, nil, x)},
		{"OpenAt with a long ad", api.ErrLimit, at(1<<40, long, x)},
		{"OpenAt of 15 bytes", api.ErrTrunc, at(1<<40, nil, x[:15])},
		{"OpenAt of another number", api.ErrOpen, at(1<<40+1, nil, x)},
		{"OpenAt with another ad", api.ErrOpen, at(1<<40, []byte{0}, x)},
		{"Skip back", api.ErrRange, func(s *cipher.State) ([]byte, api.Errno) { return nil, s.Skip(s.Next() - 1) }},
		{"Skip(-1)", api.ErrRange, func(s *cipher.State) ([]byte, api.Errno) { return nil, s.Skip(-1) }},
		{"Skip past the greatest number", api.ErrRange, func(s *cipher.State) ([]byte, api.Errno) { return nil, s.Skip(greatest + 1) }},
		{"Skip of the least int", api.ErrRange, func(s *cipher.State) ([]byte, api.Errno) { return nil, s.Skip(math.MinInt) }},
		{"Skip of the greatest int", api.ErrRange, func(s *cipher.State) ([]byte, api.Errno) { return nil, s.Skip(math.MaxInt) }},
	}
}

func TestP94AnErrorChangesNothing(t *testing.T) {
	for _, n := range []int{1, 2, 1000, greatest - 1} {
		for _, w := range wrongs(t) {
			s := at(t, key(), n)
			for range 3 {
				got, e := w.call(s)
				refused(t, w.what, got, e, w.want)
				isAt(t, "behind "+w.what, s, key(), n)
			}
			same(t, "the box behind "+w.what, seal(t, s, nil, []byte("x")), boxOf(t, key(), n, nil, []byte("x")))
			errs(t, "Rekey", s.Rekey(), api.OK)
			isAt(t, "keyed again, behind "+w.what, s, behind(key()), n+1)
		}
	}
}

// P9.5

func TestP95InTheSameOrder(t *testing.T) {
	d := rand.New(rand.NewSource(4))
	for range 20 {
		k := anyKey(d)
		n := d.Intn(1000)
		a, b := at(t, k, n), at(t, k, n)
		var ads, texts, boxes [][]byte
		for range 50 {
			ads, texts = append(ads, anyBytes(d, d.Intn(40))), append(texts, anyBytes(d, d.Intn(200)))
			boxes = append(boxes, seal(t, a, ads[len(ads)-1], texts[len(texts)-1]))
		}
		for i, box := range boxes {
			same(t, "in the same order", open(t, b, ads[i], box), texts[i])
		}
		if a.Next() != b.Next() || a.Next() != n+50 {
			t.Errorf("next are %d and %d", a.Next(), b.Next())
		}
		c := at(t, k, d.Intn(2000))
		for _, i := range d.Perm(50) {
			same(t, "in any order", openAt(t, c, n+i, ads[i], boxes[i]), texts[i])
		}
	}
}

// What comes in another order, or twice, does not open by the next number, and the right one does, behind any of them.
func TestP95WhatDidNotOpen(t *testing.T) {
	d := rand.New(rand.NewSource(5))
	a, b := cipher.New(key()), cipher.New(key())
	var boxes [][]byte
	for i := range 30 {
		boxes = append(boxes, seal(t, a, nil, counted(byte(i), i)))
	}
	for i := range boxes {
		for _, j := range d.Perm(30) {
			if i == j {
				continue
			}
			got, e := b.Open(nil, boxes[j])
			refused(t, "another one's turn", got, e, api.ErrOpen)
			got, e = b.OpenAt(i, nil, boxes[j])
			refused(t, "another one's number", got, e, api.ErrOpen)
		}
		isAt(t, "behind what did not open", b, key(), i)
		same(t, "its turn", open(t, b, nil, boxes[i]), counted(byte(i), i))
	}
}

// What was lost is skipped; both go on alike behind it, and behind Rekey of both.
func TestP95WhatIsLost(t *testing.T) {
	a, b := cipher.New(key()), cipher.New(key())
	for n := range 60 {
		box := seal(t, a, nil, counted(1, n))
		if n%3 != 2 {
			continue
		}
		got, e := b.Open(nil, box)
		refused(t, "ahead of Skip", got, e, api.ErrOpen)
		errs(t, "Skip", b.Skip(n), api.OK)
		same(t, "behind Skip", open(t, b, nil, box), counted(1, n))
		errs(t, "Rekey", a.Rekey(), api.OK)
		next := seal(t, a, nil, []byte("of another key"))
		got, e = b.Open(nil, next)
		refused(t, "ahead of Rekey", got, e, api.ErrOpen)
		errs(t, "Rekey", b.Rekey(), api.OK)
		same(t, "behind Rekey", open(t, b, nil, next), []byte("of another key"))
		a, b = at(t, behind(key()), n+1), at(t, behind(key()), n+1)
	}
}

// P9.6

// model is a state as the chapter tells it.
type model struct {
	key  api.Key
	next int
}

// taken are the keys and the numbers that boxes had.
type taken map[model]bool

// stepOnce does any call with the state and with the model, and holds them against each other.
func stepOnce(t testing.TB, d *rand.Rand, s *cipher.State, m *model, boxes taken) {
	t.Helper()
	ad, text := anyBytes(d, d.Intn(20)), anyBytes(d, d.Intn(40))
	switch d.Intn(8) {
	case 0, 1, 2:
		box, e := s.Seal(ad, text)
		if m.next == greatest {
			refused(t, "Seal", box, e, api.ErrSpent)
			break
		}
		same(t, "Seal", box, boxOf(t, m.key, m.next, ad, text))
		if boxes[*m] {
			t.Errorf("two boxes of the number %d", m.next)
		}
		boxes[*m] = true
		m.next++
	case 3:
		n := m.next + d.Intn(3) - 1
		got, e := s.Open(ad, boxOf(t, m.key, n, ad, text))
		switch {
		case m.next == greatest:
			refused(t, "Open", got, e, api.ErrSpent)
		case n != m.next:
			refused(t, "Open", got, e, api.ErrOpen)
		default:
			same(t, "Open", got, text)
			m.next++
		}
	case 4:
		n := m.next + d.Intn(5) - 2
		got, e := s.OpenAt(n, ad, boxOf(t, m.key, n, ad, text))
		if n < 0 || n >= greatest {
			refused(t, "OpenAt", got, e, api.ErrRange)
		} else {
			same(t, "OpenAt", got, text)
		}
	case 5, 6:
		n := m.next + d.Intn(5) - 2
		if n < m.next || n > greatest {
			errs(t, "Skip", s.Skip(n), api.ErrRange)
		} else {
			errs(t, "Skip", s.Skip(n), api.OK)
			m.next = n
		}
	default:
		errs(t, "Rekey", s.Rekey(), api.OK)
		m.key = behind(m.key)
	}
}

func TestP96NoNumberTwice(t *testing.T) {
	d := rand.New(rand.NewSource(6))
	for _, from := range []int{0, 0, 0, 1000, greatest - 100, greatest - 20, greatest - 1, greatest} {
		m := model{anyKey(d), from}
		s, boxes := at(t, m.key, from), taken{}
		for range 300 {
			stepOnce(t, d, s, &m, boxes)
			isAt(t, "behind a call", s, m.key, m.next)
		}
	}
}

// The same text under the same key never has the same box again, whatever is done between.
func TestP96NoBoxTwice(t *testing.T) {
	s, seen := cipher.New(key()), map[string]int{}
	for i := range 600 {
		box := string(seal(t, s, []byte("ad"), []byte("the same text")))
		if was, met := seen[box]; met {
			t.Errorf("the box %d is the box %d again", i, was)
		}
		seen[box] = i
		switch i % 5 {
		case 1:
			s.Skip(s.Next() - 1)
			s.Skip(0)
		case 2:
			s.OpenAt(0, []byte("ad"), []byte(box))
			s.Open(nil, []byte(box))
		case 3:
			s.Rekey()
		case 4:
			s.Seal(make([]byte, most+1), nil)
			s.Skip(s.Next())
		}
	}
	if s.Next() != 600 {
		t.Errorf("next is %d", s.Next())
	}
}

// R1: any numbers, and any bytes, of all kinds of states.
func TestR1AnyNumbersAndBytes(t *testing.T) {
	d := rand.New(rand.NewSource(7))
	all := append(slices.Clone(numbers), outside...)
	for range 3000 {
		var s *cipher.State
		switch d.Intn(4) {
		case 0:
		case 1:
			s = new(cipher.State)
		default:
			s = cipher.New(anyKey(d))
		}
		for range 6 {
			ad, b := anyBytes(d, d.Intn(40)), anyBytes(d, d.Intn(40))
			s.Skip(all[d.Intn(len(all))])
			s.OpenAt(all[d.Intn(len(all))], ad, b)
			s.OpenAt(int(d.Uint64()), ad, b)
			s.Seal(ad, b)
			s.Open(ad, b)
			s.Rekey()
			if n := s.Next(); n < 0 || n > greatest {
				t.Errorf("next is %d", n)
			}
		}
	}
}

func TestR2TheSameAgain(t *testing.T) {
	run := func() []byte {
		d := rand.New(rand.NewSource(8))
		s, other := cipher.New(key()), cipher.New(api.Key{})
		var all []byte
		for range 300 {
			box, _ := s.Seal(anyBytes(d, d.Intn(20)), anyBytes(d, d.Intn(20)))
			all = append(all, box...)
			if d.Intn(4) == 0 {
				s.Rekey()
				other.Rekey()
			}
			if d.Intn(4) == 0 {
				s.Skip(s.Next() + d.Intn(4))
			}
			// Another state's calls are no calls of this one.
			other.Skip(d.Intn(1000))
			other.Seal(nil, nil)
		}
		return all
	}
	first := run()
	if len(first) < 300*16 {
		t.Errorf("%d bytes", len(first))
	}
	for range 3 {
		same(t, "the same again", run(), first)
	}
}

func TestExamples(t *testing.T) {
	a, b := cipher.New(key()), cipher.New(key())
	x, e := a.Seal(nil, []byte("x"))
	errs(t, "a.Seal of x", e, api.OK)
	got, e := b.Open(nil, x)
	if string(got) != "x" || e != api.OK || a.Next() != 1 || b.Next() != 1 {
		t.Errorf("x: %q, %d, %d, %d", got, e, a.Next(), b.Next())
	}
	x, e = a.Seal(nil, []byte("y"))
	errs(t, "a.Seal of y", e, api.OK)
	got, e = b.Open([]byte("ad"), x)
	refused(t, "y with ad", got, e, api.ErrOpen)
	if b.Next() != 1 {
		t.Errorf("behind y with ad: %d", b.Next())
	}
	got, e = b.OpenAt(1, nil, x)
	if string(got) != "y" || e != api.OK || b.Next() != 1 {
		t.Errorf("y at 1: %q, %d, %d", got, e, b.Next())
	}
	got, e = b.Open(nil, x)
	if string(got) != "y" || e != api.OK || b.Next() != 2 {
		t.Errorf("y: %q, %d, %d", got, e, b.Next())
	}
	errs(t, "a.Skip(1)", a.Skip(1), api.ErrRange)
	errs(t, "a.Skip(9)", a.Skip(9), api.OK)
	if a.Next() != 9 {
		t.Errorf("behind a.Skip(9): %d", a.Next())
	}
	errs(t, "a.Skip(2^53 - 1)", a.Skip(1<<53-1), api.OK)
	got, e = a.Seal(nil, nil)
	refused(t, "a.Seal of nothing", got, e, api.ErrSpent)
}
