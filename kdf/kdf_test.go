package kdf_test

import (
	"bytes"
	"crypto/hkdf"
	"crypto/hmac"
	"crypto/sha256"
	"encoding/hex"
	"hash"
	"math"
	"math/rand"
	"strconv"
	"strings"
	"testing"

	"causeway/api"
	"causeway/blake"
	"causeway/kdf"
)

// keys are lengths at which a key's block is full, or a key is too long for it, and some between.
var keys = []int{0, 1, 2, 31, 32, 33, 62, 63, 64, 65, 66, 127, 128, 129, 200}

// lengths are those of bytes that tags are of.
var lengths = []int{0, 1, 2, 31, 32, 33, 62, 63, 64, 65, 66, 127, 128, 129, 1000}

// sizes are lengths of what is expanded, at which a tag begins or ends, and the most.
var sizes = []int{0, 1, 2, 31, 32, 33, 63, 64, 65, 95, 96, 97, 1000, 8127, 8128, 8129, 8159, 8160}

func unhex(t testing.TB, text string) []byte {
	t.Helper()
	b, err := hex.DecodeString(strings.ReplaceAll(text, " ", ""))
	if err != nil {
		t.Fatal(err)
	}
	return b
}

func anyBytes(d *rand.Rand, n int) []byte {
	b := make([]byte, n)
	d.Read(b)
	return b
}

func anyKey(d *rand.Rand) [32]byte {
	return [32]byte(anyBytes(d, 32))
}

// counted are n bytes, each one more than the one ahead of it.
func counted(from byte, n int) []byte {
	b := make([]byte, n)
	for i := range b {
		b[i] = from + byte(i)
	}
	return b
}

func turnedOver(b []byte) {
	for i := range b {
		b[i] ^= 255
	}
}

func joined(pieces ...[]byte) []byte {
	return bytes.Join(pieces, nil)
}

func digest(pieces ...[]byte) []byte {
	out := blake.Sum(joined(pieces...))
	return out[:]
}

// block is a key's, each byte xored with a mask.
func block(key []byte, mask byte) []byte {
	if len(key) > 64 {
		key = digest(key)
	}
	b := append(bytes.Clone(key), make([]byte, 64-len(key))...)
	for i := range b {
		b[i] ^= mask
	}
	return b
}

// expectedTag is the tag, as the chapter tells it.
func expectedTag(key []byte, pieces ...[]byte) []byte {
	return digest(block(key, 0x5C), digest(block(key, 0x36), joined(pieces...)))
}

func expectedKey(salt, ikm []byte) []byte {
	if len(salt) == 0 {
		salt = make([]byte, 32)
	}
	return expectedTag(salt, ikm)
}

// expectedBytes are all tags of a key and an info, one behind the other, cut to n bytes.
func expectedBytes(prk, info []byte, n int) []byte {
	var out, last []byte
	for number := 1; len(out) < n; number++ {
		last = expectedTag(prk, last, info, []byte{byte(number)})
		out = append(out, last...)
	}
	return out[:n]
}

// digester is blake as the library's HMAC and HKDF take it.
type digester struct{ *blake.Hash }

func (d digester) Write(b []byte) (int, error) { d.Hash.Write(b); return len(b), nil }
func (d digester) Sum(b []byte) []byte         { return append(b, d.Hash.Sum()...) }
func (d digester) Size() int                   { return 32 }
func (d digester) BlockSize() int              { return 64 }
func (d digester) Reset()                      { *d.Hash = *newDigester().Hash }

func newDigester() digester {
	h, _ := blake.New(32, nil)
	return digester{h}
}

func libraryTag(key, b []byte) []byte {
	m := hmac.New(func() hash.Hash { return newDigester() }, key)
	m.Write(b)
	return m.Sum(nil)
}

func libraryKey(t testing.TB, salt, ikm []byte) []byte {
	t.Helper()
	out, err := hkdf.Extract(newDigester, ikm, salt)
	if err != nil {
		t.Fatal(err)
	}
	return out
}

func libraryBytes(t testing.TB, prk, info []byte, n int) []byte {
	t.Helper()
	out, err := hkdf.Expand(newDigester, prk, string(info), n)
	if err != nil {
		t.Fatal(err)
	}
	return out
}

func same(t testing.TB, what string, got, want []byte) {
	t.Helper()
	if !bytes.Equal(got, want) {
		t.Errorf("%s: %d bytes, %x, not %d, %x", what, len(got), got, len(want), want)
	}
}

func mac(key, b []byte) []byte {
	out := kdf.Hmac(key, b)
	return out[:]
}

func extract(salt, ikm []byte) []byte {
	out := kdf.Extract(salt, ikm)
	return out[:]
}

func expand(t testing.TB, prk [32]byte, info []byte, n int) []byte {
	t.Helper()
	out, e := kdf.Expand(prk, info, n)
	if e != api.OK || len(out) != n {
		t.Errorf("Expand(.., %d bytes, %d): %d bytes, %d", len(info), n, len(out), e)
	}
	return out
}

// two are both keys, one behind the other.
func two(chain api.Key, ikm []byte) []byte {
	a, b := kdf.Two(chain, ikm)
	return joined(a[:], b[:])
}

func three(chain api.Key, ikm []byte) []byte {
	a, b, c := kdf.Three(chain, ikm)
	return joined(a[:], b[:], c[:])
}

// holdTag holds a tag against what is expected, and against the library's.
func holdTag(t testing.TB, key, b []byte) {
	t.Helper()
	what := strconv.Itoa(len(b)) + " bytes under " + strconv.Itoa(len(key))
	same(t, "Hmac, "+what, mac(key, b), expectedTag(key, b))
	same(t, "the library's Hmac, "+what, mac(key, b), libraryTag(key, b))
	same(t, "Extract, "+what, extract(key, b), expectedKey(key, b))
	same(t, "the library's Extract, "+what, extract(key, b), libraryKey(t, key, b))
}

func holdBytes(t testing.TB, prk [32]byte, info []byte, n int) {
	t.Helper()
	what := strconv.Itoa(n) + " of " + strconv.Itoa(len(info)) + " bytes"
	got := expand(t, prk, info, n)
	same(t, "Expand, "+what, got, expectedBytes(prk[:], info, n))
	same(t, "the library's Expand, "+what, got, libraryBytes(t, prk[:], info, n))
}

func holdChain(t testing.TB, chain api.Key, ikm []byte) {
	t.Helper()
	what := strconv.Itoa(len(ikm)) + " bytes"
	want := expectedBytes(expectedKey(chain[:], ikm), nil, 96)
	same(t, "Two, "+what, two(chain, ikm), want[:64])
	same(t, "Three, "+what, three(chain, ikm), want)
}

// P8.1

// What another program (Python's hmac over its blake2s) has for the same.
func TestP81TagsOfAnotherProgram(t *testing.T) {
	for _, c := range []struct {
		key, n int
		want   string
	}{
		{0, 0, "eaf4bb25938f4d20e72656bbbc7a9bf63c0c18537333c35bdb67db1402661acd"},
		{1, 1, "81c44022795ad8c80289d0d165797e0d83036fa130e5b1913fa3006fb4e76c38"},
		{31, 63, "38cd0f58605a36f1a306a808ff9cc3008a508e19077ad9c33bd68233a45a6007"},
		{32, 0, "e2641d24dfa8dd89e8cb77f1cdc77d8c006e5bebdfc4d6a3a3a6f8d5b7586fb0"},
		{32, 64, "4f9c2270d5313e81c12db0c4ecb27de213854e419e6ffd151ee6beadfeb784f6"},
		{63, 65, "a1d4e2287b2e5435b3ec414525578f0842ea6ecbf82fbd1c93586b804e18cde3"},
		{64, 1000, "21d813c848b31bd6a91181218469ce4add5dae0ee8aa9fc2f47b41da17b25d92"},
		{65, 0, "019d0d4ece4de18d4db0fe1b3b13460ff4bca4ff2b08d86e50bb1c8a799643ae"},
		{128, 64, "d18454510169c37796267be69dbe4d7a1fd87f53da646688ee06c32166986b3a"},
		{200, 1000, "6c4cbcf7681efffce9c932285090b7202d8aebaf3e42c9e53a56110bd718bf9b"},
	} {
		key, b := counted(0, c.key), counted(3, c.n)
		same(t, "Hmac", mac(key, b), unhex(t, c.want))
		same(t, "Extract", extract(key, b), unhex(t, c.want))
		same(t, "what the tests expect", expectedTag(key, b), unhex(t, c.want))
	}
	for _, c := range []struct{ key, b, want string }{
		{"Jefe", "what do ya want for nothing?", "90b6281e2f3038c9056af0b4a7e763cae6fe5d9eb4386a0ec95237890c104ff0"},
		{strings.Repeat("\x0b", 20), "Hi There", "65a8b7c5cc9136d424e82c37e2707e74e913c0655b99c75f40edf387453a3260"},
		{strings.Repeat("\xaa", 20), strings.Repeat("\xdd", 50), "fcc4f59529502e34c3d8da3ffdab82966a2cb637ff5e9bd701135c2e9469e790"},
		{strings.Repeat("\xaa", 131), "Test Using Larger Than Block-Size Key - Hash Key First", "d23d79394f53d536a096e6514447eeaabb05ded01be32c1937da6a8f7103bc4e"},
	} {
		same(t, strconv.Quote(c.b), mac([]byte(c.key), []byte(c.b)), unhex(t, c.want))
	}
}

// Another program's again: the SHA-256 of its tags, one behind the other.
func TestP81WhatAnotherProgramHas(t *testing.T) {
	all := sha256.New()
	for k := range 201 {
		for _, n := range []int{0, 1, 63, 64, 65, 1000} {
			all.Write(mac(counted(7, k), counted(3, n)))
		}
	}
	same(t, "all keys", all.Sum(nil), unhex(t, "d15fbdeb9349262eac26e19b18598c99590533020215776c0c6d28557ef0571e"))
	all.Reset()
	for _, k := range []int{0, 1, 31, 32, 63, 64, 65, 200} {
		for n := range 300 {
			all.Write(mac(counted(7, k), counted(3, n)))
		}
	}
	same(t, "all lengths", all.Sum(nil), unhex(t, "da1ba970eabd8ece5cd189f2ddd5b64413ffe126c5bb6cc1f0e53e4c8ddeff15"))
}

func TestP81EachKeyAndLength(t *testing.T) {
	d := rand.New(rand.NewSource(1))
	for k := range 201 {
		for _, n := range lengths {
			holdTag(t, anyBytes(d, k), anyBytes(d, n))
		}
	}
	for _, k := range keys {
		for n := range 200 {
			holdTag(t, anyBytes(d, k), anyBytes(d, n))
		}
		holdTag(t, bytes.Repeat([]byte{255}, k), bytes.Repeat([]byte{255}, 1000))
		holdTag(t, make([]byte, k), make([]byte, 1000))
	}
	holdTag(t, anyBytes(d, 1<<16+1), anyBytes(d, 1<<16+65))
}

func TestP81EachBit(t *testing.T) {
	d := rand.New(rand.NewSource(2))
	for _, k := range []int{1, 32, 63, 64, 65} {
		key, b := anyBytes(d, k), anyBytes(d, 65)
		was := mac(key, b)
		for _, part := range [][]byte{key, b} {
			for bit := range 8 * len(part) {
				part[bit/8] ^= 1 << (bit % 8)
				if bytes.Equal(mac(key, b), was) {
					t.Errorf("the bit %d of %d bytes counts not, under %d", bit, len(part), k)
				}
				holdTag(t, key, b)
				part[bit/8] ^= 1 << (bit % 8)
			}
		}
	}
}

// A key is not the bytes, and no byte can go from one to the other.
func TestP81KeysAreNotBytes(t *testing.T) {
	seen := map[string]int{}
	all := counted(1, 100)
	for cut := range 101 {
		was, met := seen[string(mac(all[:cut], all[cut:]))]
		if met {
			t.Errorf("a key of %d bytes has the tag of one of %d", cut, was)
		}
		seen[string(mac(all[:cut], all[cut:]))] = cut
	}
	// What is 0 behind bytes is not nothing, other than behind a key.
	for n := range 200 {
		if bytes.Equal(mac(all, make([]byte, n)), mac(all, make([]byte, n+1))) {
			t.Errorf("%d noughts have the tag of one more", n)
		}
	}
}

// P8.1: a salt without bytes is none, which is 32 noughts.
func TestP81SaltWithoutBytes(t *testing.T) {
	d := rand.New(rand.NewSource(3))
	for _, n := range lengths {
		ikm := anyBytes(d, n)
		want := expectedTag(make([]byte, 32), ikm)
		for _, salt := range [][]byte{nil, {}, make([]byte, 0, 64), anyBytes(d, 40)[:0], anyBytes(d, 80)[40:40]} {
			same(t, "no salt", extract(salt, ikm), want)
			same(t, "no key", mac(salt, ikm), want)
		}
		same(t, "32 noughts", extract(make([]byte, 32), ikm), want)
	}
	same(t, "none of none", extract(nil, nil), unhex(t, "eaf4bb25938f4d20e72656bbbc7a9bf63c0c18537333c35bdb67db1402661acd"))
	same(t, "none of 22", extract(nil, counted(3, 22)), unhex(t, "20a1f63b50582637250ef508f7c14f97eddfaee517bfcb09d2644a87927d56d1"))
	same(t, "13 of 22", extract(counted(0, 13), counted(3, 22)), unhex(t, "daef042d30fd3a101a5b59620baccf3a4e9ba0f2f96e822bcc072b6b6be66899"))
	same(t, "32 of 32", extract(counted(0, 32), counted(3, 32)), unhex(t, "5daa5b388d2f31d3966f396d8a9b4c2df731aa172683721ad96b039fa3a88df8"))
	same(t, "80 of 80", extract(counted(0, 80), counted(3, 80)), unhex(t, "e7881280506a522362b06ac7cf476fde974515c2bf2be10ea318630a3d366afe"))
}

// Bytes without any are none, made or nil.
func TestP81WithoutBytes(t *testing.T) {
	d := rand.New(rand.NewSource(4))
	for _, k := range keys {
		key := anyBytes(d, k)
		for _, b := range [][]byte{nil, {}, make([]byte, 0, 64), anyBytes(d, 40)[:0]} {
			same(t, "no bytes", mac(key, b), expectedTag(key))
			same(t, "no ikm", extract(key, b), expectedTag(key))
		}
	}
}

// P8.2

func TestP82BytesOfAnotherProgram(t *testing.T) {
	prk := [32]byte(counted(0, 32))
	for _, c := range []struct {
		info, n int
		want    string
	}{
		{0, 1, "0e"},
		{0, 32, "0eb5b63e94eb0ee56be66329386c25cca6d38e699ce487595a1bfa66e6968f35"},
		{0, 33, "0eb5b63e94eb0ee56be66329386c25cca6d38e699ce487595a1bfa66e6968f3561"},
		{10, 42, "e9afa0bba6b717daa2fd92e01c6f3bea337c494d67ee861390b83eb7fcf4ba7094d11b4ceabc89cfebc1"},
		{80, 82, "c5a92beed9402fada68487e082e5ef4f5c14f1bcb4808bd75044a18b4b1f03d573ee7934f1c6534e2d310d61d741d7b61be7883ba90f383eaa3756886182b1ded19a516a2b85abdfe990a32c9ffea27bd951"},
		{1000, 64, "2a39b1ad7361043f6a2d58116cb6fa1abb2e9ba0acfc1d14e70e0c49a04c6d1a05d7800fd527c5fe994e1b9b1494fff6c034a29a34f44107ddf29e0f5ead3672"},
	} {
		same(t, "Expand", expand(t, prk, counted(240, c.info), c.n), unhex(t, c.want))
	}
	all := sha256.New()
	for _, n := range []int{0, 1, 10, 31, 32, 33, 63, 64, 65, 1000} {
		all.Write(expand(t, prk, counted(240, n), 8160))
	}
	same(t, "all of them", all.Sum(nil), unhex(t, "2769f7bfa6647b4a0cf6bcdbbee1eb878920a1aa7111f8cceca105b9a59fc0e9"))
	same(t, "the last one", expand(t, prk, []byte("info"), 8160)[8128:], unhex(t, "24b46e171742b0e98da1daddaac6b7a166d7e0192812b738a6ed207adb2f1010"))
}

func TestP82EachSizeAndInfo(t *testing.T) {
	d := rand.New(rand.NewSource(5))
	for n := range 200 {
		for _, i := range []int{0, 1, 31, 32, 33, 63, 64, 65} {
			holdBytes(t, anyKey(d), anyBytes(d, i), n)
		}
	}
	for _, n := range sizes {
		for _, i := range []int{0, 1, 30, 31, 32, 64, 100, 1000} {
			holdBytes(t, anyKey(d), anyBytes(d, i), n)
		}
		holdBytes(t, [32]byte{}, nil, n)
		holdBytes(t, [32]byte(bytes.Repeat([]byte{255}, 32)), bytes.Repeat([]byte{255}, 33), n)
	}
	holdBytes(t, anyKey(d), anyBytes(d, 1<<16+1), 97)
}

func TestP82InfoWithoutBytes(t *testing.T) {
	d := rand.New(rand.NewSource(6))
	for _, n := range sizes {
		prk := anyKey(d)
		want := expectedBytes(prk[:], nil, n)
		for _, info := range [][]byte{nil, {}, make([]byte, 0, 64), anyBytes(d, 40)[:0]} {
			same(t, "no info", expand(t, prk, info, n), want)
		}
	}
	prk := anyKey(d)
	if bytes.Equal(expand(t, prk, make([]byte, 1), 32), expand(t, prk, nil, 32)) {
		t.Error("an info of one nought is none")
	}
}

func TestP82EachBit(t *testing.T) {
	d := rand.New(rand.NewSource(7))
	prk, info := anyKey(d), anyBytes(d, 65)
	was := expand(t, prk, info, 65)
	for _, part := range [][]byte{prk[:], info} {
		for bit := range 8 * len(part) {
			part[bit/8] ^= 1 << (bit % 8)
			got := expand(t, prk, info, 65)
			if bytes.Equal(got[:32], was[:32]) || bytes.Equal(got[32:64], was[32:64]) {
				t.Errorf("the bit %d of %d bytes counts not", bit, len(part))
			}
			same(t, "Expand", got, expectedBytes(prk[:], info, 65))
			part[bit/8] ^= 1 << (bit % 8)
		}
	}
}

// The last tag's number is the greatest byte: none comes twice.
func TestP82NoTwoTagsAreTheSame(t *testing.T) {
	seen := map[string]int{}
	all := expand(t, [32]byte{9}, []byte{1}, 8160)
	for i := range 255 {
		one := string(all[32*i : 32*i+32])
		if was, met := seen[one]; met {
			t.Errorf("the tag %d is the tag %d", i, was)
		}
		seen[one] = i
	}
}

// refused holds that Expand answers an error, and nothing else.
func refused(t testing.TB, prk [32]byte, info []byte, n int, want api.Errno) {
	t.Helper()
	if out, e := kdf.Expand(prk, info, n); e != want || len(out) != 0 {
		t.Errorf("Expand(.., %d bytes, %d): %d bytes, %d, not %d alone", len(info), n, len(out), e, want)
	}
}

func TestP82WrongSizes(t *testing.T) {
	if api.ErrArg != 2 || api.ErrLimit != 5 {
		t.Fatal("the errors' numbers are not those of the chapter")
	}
	d := rand.New(rand.NewSource(8))
	for _, i := range []int{0, 1, 32, 64, 1000} {
		prk, info := anyKey(d), anyBytes(d, i)
		for _, n := range []int{-1, -2, -31, -32, -33, -8160, -8161, -1 << 31, -1 << 32, -1<<32 + 32, math.MinInt + 32, math.MinInt + 1, math.MinInt} {
			refused(t, prk, info, n, api.ErrArg)
			refused(t, [32]byte{}, nil, n, api.ErrArg)
		}
		for _, n := range []int{8161, 8162, 8191, 8192, 8193, 16320, 1<<16 + 1, 1 << 31, 1 << 32, 1<<32 + 32, math.MaxInt - 31, math.MaxInt - 1, math.MaxInt} {
			refused(t, prk, info, n, api.ErrLimit)
			refused(t, [32]byte{}, nil, n, api.ErrLimit)
		}
		for _, n := range []int{0, 1, 8159, 8160} {
			holdBytes(t, prk, info, n)
		}
	}
}

// P8.3

func TestP83ChainsOfAnotherProgram(t *testing.T) {
	chain := api.Key(counted(1, 32))
	for _, c := range []struct {
		n    int
		want string
	}{
		{0, "4e9bc273c44009a18dec0963c4497767831058da3e1172da2694015276336e74 900daf1ebdc69c7f2089e989eabd9aa16a71be745b6dc044971dbc56cbec8da4 b3961d09006d30ed06883451dad9399f0ed9c84c9cf5fe90bcd62dcc631f26c8"},
		{1, "06ec72b0a61acb52119e50aa2b11785f4e11319a8e17d64670787054f4876d12 c1547d96308fefdd5e87c26c3b5e3fbbd37ff8b7358d8bee42df646befb747ec eb6bfd8486bd20f12b7bd4c443182331ce679c3e3d49ace87369cc068cf9603e"},
		{32, "5809df97ffb227dd1d10f82d05fb3ba55bc8ceeffd14f913d150de2df8773eef 107b34c9feb5b778b6eb4349a2894139de89f58e9798c73539db176545d66d61 7708159b1921aa84575bb442a081b51283e2a0c4b5f2d56ab6c6968a389f8d6c"},
		{64, "34a4b66fa4182375ab7f23ae6c27f6d080b933391337a407afa4819ff12ec8bb 31c31fa304923bdb653590cd9affc5f41989229aa52f8ef2797deba50eed3678 e03dde906b637698b645ce5c8a2b49c316d0cd67765f7db8d8e553104fcaca90"},
		{65, "904dccaabeb36779be6b9638d02fb90e46dd799f3d1fbad2ad0473b71eddcd5c 874f5755e4cafa732f699bad65b44ac55878ce314dab5c2868699aaf56763e23 731a106afe098cc769c156420a3f97eee9c5a3d9099587a8800f22049c3daec5"},
		{1000, "39c958e81a9908f22ba44c38e58637297f72b0e4ac5eee19ddf14a53b64d449c 9bdf10af9142ca59c5d44104080f7f30a6ac91826cd0a513e0036abecb054efd 15bd6435561ecd3de61b7b5ed6b4ee5b0486c19c1c87ff94219903e7b242bb23"},
	} {
		want := unhex(t, c.want)
		same(t, "Three", three(chain, counted(5, c.n)), want)
		same(t, "Two", two(chain, counted(5, c.n)), want[:64])
	}
	same(t, "noughts", three(api.Key{}, nil), unhex(t, "8387b46bf43eccfcf349552a095d8315c4055beb90208fb1be23b894bc2ed5d0 58a0e5f6faefccf4807bff1f05fa8a9217945762040bcec2f4b4a62bdfe0e86e 0ce6ea98ec548f8e281e93e32db65621c45eb18dc6f0a7ad94178610a2f7338e"))
}

// A chain of 1000 keys, each one made of the one ahead of it, as another program has it.
func TestP83ALongChain(t *testing.T) {
	all := sha256.New()
	chain := api.Key(counted(1, 32))
	for i := range 1000 {
		keys := three(chain, counted(byte(i), i))
		same(t, "Two", two(chain, counted(byte(i), i)), keys[:64])
		all.Write(keys)
		chain = api.Key(keys[32:64])
	}
	same(t, "all keys", all.Sum(nil), unhex(t, "a013da91a92cd4c10b1f504f255147204ecf9014e83d1c9d4ddf0cb06c18ef72"))
	same(t, "the last one", chain[:], unhex(t, "4df9ed81df33c0b78a5eecdad5f2c9a8e5cede382489721bb6830d2ce524dd15"))
}

func TestP83EachLength(t *testing.T) {
	d := rand.New(rand.NewSource(9))
	for n := range 300 {
		holdChain(t, anyKey(d), anyBytes(d, n))
		holdChain(t, api.Key{}, anyBytes(d, n))
		holdChain(t, anyKey(d), make([]byte, n))
	}
	holdChain(t, anyKey(d), anyBytes(d, 4096))
}

func TestP83ChainsAreExpanded(t *testing.T) {
	d := rand.New(rand.NewSource(10))
	for _, n := range lengths {
		chain, ikm := anyKey(d), anyBytes(d, n)
		prk := kdf.Extract(chain[:], ikm)
		same(t, "Two", two(chain, ikm), expand(t, prk, nil, 64))
		same(t, "Three", three(chain, ikm), expand(t, prk, nil, 96))
		same(t, "Three", three(chain, ikm), libraryBytes(t, libraryKey(t, chain[:], ikm), nil, 96))
	}
}

func TestP83WithoutBytes(t *testing.T) {
	d := rand.New(rand.NewSource(11))
	for range 20 {
		chain := anyKey(d)
		want := expectedBytes(expectedTag(chain[:]), nil, 96)
		for _, ikm := range [][]byte{nil, {}, make([]byte, 0, 64), anyBytes(d, 40)[:0]} {
			same(t, "Two of none", two(chain, ikm), want[:64])
			same(t, "Three of none", three(chain, ikm), want)
		}
	}
}

// P8.4

func TestP84WhatIsHandedInIsOnlyRead(t *testing.T) {
	d := rand.New(rand.NewSource(12))
	for _, k := range keys {
		for _, n := range lengths {
			room, behind := anyBytes(d, n+200), anyBytes(d, k+200)
			was, wasBehind := bytes.Clone(room), bytes.Clone(behind)
			b, key := room[:n], behind[:k]
			chain := anyKey(d)
			wasChain := chain
			mac(key, b)
			extract(key, b)
			expand(t, chain, b, 100)
			two(chain, b)
			three(chain, b)
			refused(t, chain, b, -1, api.ErrArg)
			refused(t, chain, b, 8161, api.ErrLimit)
			same(t, "bytes, and their spare room", room, was)
			same(t, "a key, and its spare room", behind, wasBehind)
			same(t, "a chain's key", chain[:], wasChain[:])
		}
	}
}

// The same list, or a piece of it, may be handed in twice.
func TestP84HandedInTwice(t *testing.T) {
	d := rand.New(rand.NewSource(13))
	for _, n := range lengths {
		b := anyBytes(d, n)
		was := bytes.Clone(b)
		holdTag(t, b, b)
		holdTag(t, b[n/2:], b)
		holdTag(t, b, b[:n/2])
		same(t, "the list", b, was)
	}
	chain := anyKey(d)
	was := chain
	same(t, "a chain's key as ikm", three(chain, chain[:]), expectedBytes(expectedTag(was[:], was[:]), nil, 96))
	same(t, "a key as info", expand(t, chain, chain[:], 97), expectedBytes(was[:], was[:], 97))
	same(t, "the chain's key", chain[:], was[:])
}

func TestP84WhatIsHandedInIsNotKept(t *testing.T) {
	d := rand.New(rand.NewSource(14))
	for _, k := range keys {
		for _, n := range lengths {
			key, b, prk := anyBytes(d, k), anyBytes(d, n), anyKey(d)
			tag, made := mac(key, b), expand(t, prk, b, 70)
			a, c := kdf.Two(prk, b)
			wantTag, wantMade := expectedTag(key, b), expectedBytes(prk[:], b, 70)
			want := expectedBytes(expectedTag(prk[:], b), nil, 64)
			turnedOver(key)
			turnedOver(b)
			turnedOver(prk[:])
			same(t, "a tag", tag, wantTag)
			same(t, "bytes", made, wantMade)
			same(t, "keys", joined(a[:], c[:]), want)
		}
	}
}

func TestP84WhatIsAnsweredIsNew(t *testing.T) {
	d := rand.New(rand.NewSource(15))
	for _, n := range sizes {
		for _, i := range []int{0, 1, 32, 64, 1000} {
			prk, info := anyKey(d), anyBytes(d, i)
			want, wasInfo := expectedBytes(prk[:], info, n), bytes.Clone(info)
			one, other := expand(t, prk, info, n), expand(t, prk, info, n)
			turnedOver(one[:cap(one)])
			same(t, "Expand ahead of that", other, want)
			same(t, "Expand behind that", expand(t, prk, info, n), want)
			same(t, "the info", info, wasInfo)
		}
	}
	for _, k := range keys {
		key, b := anyBytes(d, k), anyBytes(d, 40)
		for _, call := range []func([]byte, []byte) []byte{mac, extract} {
			want := expectedTag(key, b)
			turnedOver(call(key, b))
			same(t, "behind that", call(key, b), want)
		}
	}
}

// P8.5

func TestP85LongKeysAreTheirDigests(t *testing.T) {
	d := rand.New(rand.NewSource(16))
	for _, k := range []int{65, 66, 95, 96, 97, 127, 128, 129, 200, 1000, 4096} {
		for _, n := range lengths {
			key, b := anyBytes(d, k), anyBytes(d, n)
			same(t, "a long key", mac(key, b), mac(digest(key), b))
			same(t, "a long salt", extract(key, b), extract(digest(key), b))
			// No noughts behind it, for a long key's length counts.
			if bytes.Equal(mac(append(bytes.Clone(key), 0), b), mac(key, b)) {
				t.Errorf("a key of %d bytes is the same with a nought behind it", k)
			}
		}
	}
	// All others are not.
	for k := range 65 {
		key := anyBytes(d, k)
		if bytes.Equal(mac(key, nil), mac(digest(key), nil)) {
			t.Errorf("a key of %d bytes is its digest", k)
		}
	}
}

func TestP85ShortKeysHaveNoughts(t *testing.T) {
	d := rand.New(rand.NewSource(17))
	for k := range 65 {
		key, b := anyBytes(d, k), anyBytes(d, 65)
		want := mac(key, b)
		same(t, "a short key", want, expectedTag(key, b))
		for more := k; more <= 64; more++ {
			with := append(bytes.Clone(key), make([]byte, more-k)...)
			same(t, "with noughts", mac(with, b), want)
			same(t, "with noughts", extract(with, b), want)
		}
		with := append(bytes.Clone(key), make([]byte, 65-k)...)
		if bytes.Equal(mac(with, b), want) {
			t.Errorf("a key of %d bytes is the same with noughts up to 65", k)
		}
		if k > 0 && bytes.Equal(mac(append([]byte{0}, key...), b), want) {
			t.Errorf("a nought ahead of a key of %d bytes counts not", k)
		}
	}
}

func TestP85FewerAreTheBeginning(t *testing.T) {
	d := rand.New(rand.NewSource(18))
	for _, i := range []int{0, 1, 32, 64, 1000} {
		prk, info := anyKey(d), anyBytes(d, i)
		all := expand(t, prk, info, 8160)
		for n := range 200 {
			same(t, "the beginning", expand(t, prk, info, n), all[:n])
		}
		for _, n := range sizes {
			same(t, "the beginning", expand(t, prk, info, n), all[:n])
		}
	}
}

func TestP85TwoOfThree(t *testing.T) {
	d := rand.New(rand.NewSource(19))
	for range 200 {
		chain, ikm := api.Key(anyKey(d)), anyBytes(d, d.Intn(200))
		a, b := kdf.Two(chain, ikm)
		x, y, z := kdf.Three(chain, ikm)
		if a != x || b != y {
			t.Errorf("%x, %x, not %x, %x", a, b, x, y)
		}
		if a == b || b == z || a == z {
			t.Errorf("two of the keys are one: %x, %x, %x", a, b, z)
		}
	}
}

// R2: the same again, whatever was called ahead.
func TestR2TheSameAgain(t *testing.T) {
	d := rand.New(rand.NewSource(20))
	for range 200 {
		key, b, prk := anyBytes(d, d.Intn(200)), anyBytes(d, d.Intn(200)), anyKey(d)
		n := d.Intn(300)
		tag, made, keys := mac(key, b), expand(t, prk, b, n), three(prk, b)
		mac(anyBytes(d, 32), anyBytes(d, 100))
		kdf.Expand(anyKey(d), b, 8161)
		expand(t, anyKey(d), anyBytes(d, 10), 500)
		two(anyKey(d), b)
		same(t, "Hmac again", mac(key, b), tag)
		same(t, "Extract again", extract(key, b), tag)
		same(t, "Expand again", expand(t, prk, b, n), made)
		same(t, "Three again", three(prk, b), keys)
	}
}

// The chapter's examples.

func TestExamples(t *testing.T) {
	d := rand.New(rand.NewSource(21))
	for range 20 {
		prk, info, ikm := anyKey(d), anyBytes(d, d.Intn(100)), anyBytes(d, d.Intn(100))
		if out, e := kdf.Expand(prk, info, 0); len(out) != 0 || e != api.OK {
			t.Errorf("Expand of no bytes: %x, %d", out, e)
		}
		refused(t, prk, info, -1, api.ErrArg)
		refused(t, prk, info, 8161, api.ErrLimit)
		same(t, "no salt", extract(nil, ikm), extract(make([]byte, 32), ikm))
		chain := api.Key(prk)
		same(t, "Two", two(chain, ikm), expand(t, kdf.Extract(chain[:], ikm), nil, 64))
	}
}
