package curve_test

import (
	"crypto/ecdh"
	"encoding/hex"
	"math/big"
	"math/rand"
	"slices"
	"testing"

	"causeway/api"
	"causeway/curve"
)

func key(t testing.TB, text string) api.Key {
	t.Helper()
	b, err := hex.DecodeString(text)
	if err != nil || len(b) != 32 {
		t.Fatalf("no key: %s", text)
	}
	return api.Key(b)
}

// filled has the same byte between its first and its last one.
func filled(first, fill, last byte) api.Key {
	var k api.Key
	for i := range k {
		k[i] = fill
	}
	k[0], k[31] = first, last
	return k
}

func flipped(k api.Key, bit int) api.Key {
	k[bit/8] ^= 1 << (bit % 8)
	return k
}

func anyKey(d *rand.Rand) api.Key {
	var k api.Key
	d.Read(k[:])
	return k
}

// edges are keys, and points, at which something turns: all bits alone, all but one, and what is near 0, p, 2^255, 2^256.
func edges() []api.Key {
	list := []api.Key{{}, filled(255, 255, 255)}
	for bit := range 256 {
		list = append(list, flipped(api.Key{}, bit), flipped(filled(255, 255, 255), bit))
	}
	for n := range 40 {
		list = append(list, api.Key{byte(n)}, filled(byte(255-n), 255, 127), filled(byte(255-n), 255, 255), api.Key{byte(n), 31: 128}, api.Key{byte(n), 31: 64}, filled(byte(255-n), 255, 63))
	}
	return list
}

// lowOrder are all points of an order of 1, 2, 4 or 8, of the curve and of its twist, in each of their bytes: X of them is 0 whatever the key is.
func lowOrder(t testing.TB) []api.Key {
	list := []api.Key{
		{},
		{1},
		key(t, "e0eb7a7c3b41b8ae1656e3faf19fc46ada098deb9c32b1fd866205165f49b800"),
		key(t, "5f9c95bca3508c24b1d0b1559c83ef5b04445cc4581c8e86d8224eddd09f1157"),
		filled(0xec, 255, 127), // p - 1
		filled(0xed, 255, 127), // p, which is 0
		filled(0xee, 255, 127), // p + 1, which is 1
	}
	for _, u := range list {
		list = append(list, flipped(u, 255))
	}
	return list
}

// library is X as a library that is not the program's has it; it refuses where X is 0.
func library(t testing.TB, k, u api.Key) api.Key {
	t.Helper()
	own, err := ecdh.X25519().NewPrivateKey(k[:])
	if err != nil {
		t.Fatal(err)
	}
	point, err := ecdh.X25519().NewPublicKey(u[:])
	if err != nil {
		t.Fatal(err)
	}
	shared, err := own.ECDH(point)
	if err != nil {
		return api.Key{}
	}
	return api.Key(shared)
}

func libraryPublic(t testing.TB, k api.Key) api.Key {
	t.Helper()
	own, err := ecdh.X25519().NewPrivateKey(k[:])
	if err != nil {
		t.Fatal(err)
	}
	return api.Key(own.PublicKey().Bytes())
}

// shares holds X and Share against the library.
func shares(t testing.TB, k, u api.Key) {
	t.Helper()
	want, wanted := library(t, k, u), api.OK
	if want == (api.Key{}) {
		wanted = api.ErrPoint
	}
	if got := curve.X(k, u); got != want {
		t.Errorf("X(%x, %x): %x, not %x", k, u, got, want)
	}
	if got, e := curve.Share(k, u); got != want || e != wanted {
		t.Errorf("Share(%x, %x): %x, %d, not %x, %d", k, u, got, e, want, wanted)
	}
}

// P3.1

func TestP31ClampEachBit(t *testing.T) {
	for _, k := range []api.Key{{}, filled(255, 255, 255), filled(0x5a, 0xa5, 0x3c)} {
		for bit := range 256 {
			for _, k := range []api.Key{k, flipped(k, bit)} {
				want := k
				for _, none := range []int{0, 1, 2, 255} {
					want[none/8] &^= 1 << (none % 8)
				}
				want[31] |= 64
				if got := curve.Clamp(k); got != want {
					t.Errorf("Clamp(%x): %x, not %x", k, got, want)
				}
			}
		}
	}
}

func TestP31ClampTwice(t *testing.T) {
	d := rand.New(rand.NewSource(1))
	for range 500 {
		k := anyKey(d)
		if once := curve.Clamp(k); curve.Clamp(once) != once {
			t.Errorf("Clamp of Clamp of %x", k)
		}
	}
}

func TestP31XWhereItTurns(t *testing.T) {
	d := rand.New(rand.NewSource(2))
	list := edges()
	for _, x := range list {
		shares(t, x, anyKey(d))
		shares(t, anyKey(d), x)
		shares(t, x, list[d.Intn(len(list))])
	}
}

func TestP31XAny(t *testing.T) {
	d := rand.New(rand.NewSource(3))
	for range 1000 {
		shares(t, anyKey(d), anyKey(d))
	}
}

func TestP31XOfLowOrderIsZero(t *testing.T) {
	d := rand.New(rand.NewSource(4))
	for _, u := range lowOrder(t) {
		for _, k := range append(edges()[:20], anyKey(d), anyKey(d)) {
			if got := curve.X(k, u); got != (api.Key{}) {
				t.Errorf("X(%x, %x): %x, not 0", k, u, got)
			}
		}
	}
}

func TestP31Public(t *testing.T) {
	d := rand.New(rand.NewSource(5))
	list := edges()
	for range 200 {
		list = append(list, anyKey(d))
	}
	for _, k := range list {
		want := libraryPublic(t, k)
		if got := curve.Public(k); got != want {
			t.Errorf("Public(%x): %x, not %x", k, got, want)
		}
		if got := curve.X(k, api.Key{9}); got != want {
			t.Errorf("X(%x, 9): %x, not %x", k, got, want)
		}
	}
}

// W6: what RFC 7748 tells (5.2 and 6.1) beside the chapter's examples.

func TestP31WhatTheStandardTells(t *testing.T) {
	got := curve.X(key(t, "4b66e9d4d1b4673c5ad22691957d6af5c11b6421e0ea01d42ca4169e7918ba0d"), key(t, "e5210f12786811d3f4b7959d0538ae2c31dbe7106fc03c3efc4cd549c715a493"))
	if got != key(t, "95cbde9476e8907d7aade45cb4b873f88b595a68799fa152e6f8f7647aac7957") {
		t.Errorf("the second vector: %x", got)
	}
	got = curve.Public(key(t, "5dab087e624a8a4b79e17f8b83800ee66f3bb1292618b6fd1c2f8b27ff88e0eb"))
	if got != key(t, "de9edb7d7b7dc1b4d35b61c2ece435373f8343c85b78674dadfc7e146f882b4f") {
		t.Errorf("Bob's public key: %x", got)
	}
	k, u := api.Key{9}, api.Key{9}
	for i := range 1000 {
		k, u = curve.X(k, u), k
		if i == 0 && k != key(t, "422c8e7a6227d7bca1350b3e2bb7279f7897b87bb6854b783c60e80311ae3079") {
			t.Errorf("once: %x", k)
		}
	}
	if k != key(t, "684cf59ba83309552800ef566f2f4d3c1c3887c49360e3875f2eb94d99532c51") {
		t.Errorf("a thousand times: %x", k)
	}
}

// P3.2

func TestP32ShareOfLowOrder(t *testing.T) {
	d := rand.New(rand.NewSource(6))
	for _, u := range lowOrder(t) {
		for _, k := range append(edges()[:20], anyKey(d), anyKey(d)) {
			if got, e := curve.Share(k, u); got != (api.Key{}) || e != api.ErrPoint {
				t.Errorf("Share(%x, %x): %x, %d, not 0, ErrPoint", k, u, got, e)
			}
		}
	}
}

// What differs by one bit from a point of a low order is none, unless that bit does not count.
func TestP32ShareBesideLowOrder(t *testing.T) {
	d := rand.New(rand.NewSource(7))
	low := map[api.Key]int{}
	for _, u := range lowOrder(t) {
		low[u] = 1
	}
	for _, u := range lowOrder(t)[:5] {
		for bit := range 255 {
			beside := flipped(u, bit)
			if low[beside] != 0 {
				continue
			}
			if got, e := curve.Share(anyKey(d), beside); e != api.OK || got == (api.Key{}) {
				t.Errorf("Share(any, %x): %x, %d", beside, got, e)
			}
		}
	}
}

// backwards is a key with which X goes back from where it came with k, as long as the point is of the great prime order.
func backwards(t testing.TB, k api.Key) (api.Key, bool) {
	order, ok := new(big.Int).SetString("7237005577332262213973186563042994240857116359379907606001950938285454250989", 10)
	if !ok {
		t.Fatal("no number")
	}
	number := curve.Clamp(k)
	slices.Reverse(number[:])
	n := new(big.Int).ModInverse(new(big.Int).SetBytes(number[:]), order)
	for ; n.BitLen() <= 255; n.Add(n, order) {
		var back api.Key
		n.FillBytes(back[:])
		slices.Reverse(back[:])
		if curve.Clamp(back) == back {
			return back, true
		}
	}
	return api.Key{}, false
}

// A result that has but one byte that is not 0 is none of 32 bytes 0, wherever that byte stands.
func TestP32ShareOfOneByte(t *testing.T) {
	d := rand.New(rand.NewSource(8))
	k := anyKey(d)
	back, ok := backwards(t, k)
	for !ok {
		k = anyKey(d)
		back, ok = backwards(t, k)
	}
	for at := range 32 {
		met := 0
		for n := 1; n < 128 && met < 2; n++ {
			var want api.Key
			want[at] = byte(n)
			u := curve.X(back, want)
			if library(t, k, u) != want {
				continue
			}
			met++
			shares(t, k, u)
		}
		if met == 0 {
			t.Errorf("no point gives a result with the byte %d alone", at)
		}
	}
}

// P3.3

func TestP33TwoShareTheSame(t *testing.T) {
	d := rand.New(rand.NewSource(9))
	list := edges()
	for i := range 400 {
		a, b := anyKey(d), anyKey(d)
		if i%2 == 0 {
			a = list[d.Intn(len(list))]
		}
		if i%4 == 0 {
			b = list[d.Intn(len(list))]
		}
		want := curve.X(a, curve.Public(b))
		if got := curve.X(b, curve.Public(a)); got != want {
			t.Errorf("%x and %x share %x and %x", a, b, want, got)
		}
		if got, e := curve.Share(b, curve.Public(a)); got != want || e != api.OK {
			t.Errorf("Share of %x and %x: %x, %d, not %x", b, a, got, e, want)
		}
	}
}

// It does not hang on the base point: any two keys may be taken in either order.
func TestP33InEitherOrder(t *testing.T) {
	d := rand.New(rand.NewSource(10))
	for range 200 {
		a, b, u := anyKey(d), anyKey(d), anyKey(d)
		if curve.X(a, curve.X(b, u)) != curve.X(b, curve.X(a, u)) {
			t.Errorf("%x and %x, of %x", a, b, u)
		}
	}
}

// P3.4

func sameAnswers(t *testing.T, k, u, other, point api.Key) {
	t.Helper()
	if curve.X(k, u) != curve.X(other, point) {
		t.Errorf("X(%x, %x) is not X(%x, %x)", k, u, other, point)
	}
	if curve.Public(k) != curve.Public(other) {
		t.Errorf("Public(%x) is not Public(%x)", k, other)
	}
	one, e := curve.Share(k, u)
	two, f := curve.Share(other, point)
	if one != two || e != f {
		t.Errorf("Share(%x, %x) is not Share(%x, %x)", k, u, other, point)
	}
}

func TestP34KeysWithTheSameNumber(t *testing.T) {
	d := rand.New(rand.NewSource(11))
	for range 8 {
		k, u := anyKey(d), anyKey(d)
		for bits := range 32 {
			other := k
			other[0] = k[0]&^7 | byte(bits&7)
			other[31] = k[31]&^192 | byte(bits>>3)<<6
			if curve.Clamp(other) != curve.Clamp(k) {
				t.Errorf("%x and %x have not the same number", k, other)
			}
			sameAnswers(t, k, u, other, u)
		}
		sameAnswers(t, k, u, curve.Clamp(k), u)
	}
}

// All other bits count.
func TestP34KeysWithOtherNumbers(t *testing.T) {
	k := anyKey(rand.New(rand.NewSource(12)))
	seen := map[api.Key]int{curve.Public(k): -1}
	for bit := 3; bit < 254; bit++ {
		p := curve.Public(flipped(k, bit))
		if _, was := seen[p]; was {
			t.Errorf("the bit %d does not count", bit)
		}
		seen[p] = bit
	}
}

func TestP34PointsThatAreTheSameElement(t *testing.T) {
	d := rand.New(rand.NewSource(13))
	for range 100 {
		k, u := anyKey(d), anyKey(d)
		sameAnswers(t, k, u, k, flipped(u, 255))
	}
	for n := range 19 {
		k, small, great := anyKey(d), api.Key{byte(n)}, filled(0xed+byte(n), 255, 127)
		sameAnswers(t, k, small, k, great)
		sameAnswers(t, k, small, k, flipped(great, 255))
		sameAnswers(t, k, small, k, flipped(small, 255))
	}
}

// R2

func TestR2TheSameAgain(t *testing.T) {
	d := rand.New(rand.NewSource(14))
	for range 50 {
		k, u := anyKey(d), anyKey(d)
		was, point := k, u
		first := curve.X(k, u)
		curve.Public(u)
		curve.Share(u, k)
		curve.Clamp(k)
		if k != was || u != point {
			t.Error("what was handed in was changed")
		}
		if curve.X(k, u) != first {
			t.Error("another answer the second time")
		}
	}
}

// The chapter's examples.

func TestExamples(t *testing.T) {
	k := key(t, "77076d0a7318a57d3c16c17251b26645df4c2f87ebc0992ab177fba51db92c2a")
	got := curve.X(key(t, "a546e36bf0527c9d3b16154b82465edd62144c0ac1fc5a18506a2244ba449ac4"), key(t, "e6db6867583030db3594c1a424b15f7c726624ec26b3353b10a903a6d0ab1c4c"))
	if got != key(t, "c3da55379de9c6908e94ea4df28d084f32eccf03491c71f754b4075577a28552") {
		t.Errorf("X: %x", got)
	}
	if got := curve.Public(k); got != key(t, "8520f0098930a754748b7ddcb43ef75a0dbf3a0d26381af4eba4a98eaa9b4e6a") {
		t.Errorf("Public: %x", got)
	}
	got, e := curve.Share(k, key(t, "de9edb7d7b7dc1b4d35b61c2ece435373f8343c85b78674dadfc7e146f882b4f"))
	if e != api.OK || got != key(t, "4a5d9d5ba4ce2de1728e3bf480350f25e07e21c947d19e3376f09b3c1e161742") {
		t.Errorf("Share: %x, %d", got, e)
	}
	for _, u := range []api.Key{{}, {1}} {
		if got, e := curve.Share(k, u); got != (api.Key{}) || e != api.ErrPoint {
			t.Errorf("Share(any, %d): %x, %d", u[0], got, e)
		}
	}
}

func BenchmarkX(b *testing.B) {
	k, u := filled(1, 2, 3), api.Key{9}
	for b.Loop() {
		u = curve.X(k, u)
	}
}
