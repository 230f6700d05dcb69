package tests

import (
	"bytes"
	"crypto/hkdf"
	"crypto/hmac"
	"crypto/sha256"
	"encoding/hex"
	"strings"
	"testing"

	"loop.example/g00257/impl"
)

// hashSizes are all sizes of the first chunks, around each of which a chunk more begins, and the greatest ones.
func hashSizes() []int {
	var sizes []int
	for n := range 260 {
		sizes = append(sizes, n)
	}
	return append(sizes, 4095, 4096, 4097, 8191, 8192, 8193, impl.MaxText-65, impl.MaxText-64, impl.MaxText-63,
		impl.MaxText-10, impl.MaxText-9, impl.MaxText-8, impl.MaxText-7, impl.MaxText-1, impl.MaxText)
}

// keySizes are those around which a key becomes its hash, and the greatest ones.
func keySizes() []int {
	return []int{0, 1, 20, 31, 32, 33, 63, 64, 65, 66, 100, 127, 128, 129, 131, 1000, impl.MaxText - 1, impl.MaxText}
}

// drawnSizes are those around which a block more is drawn.
func drawnSizes() []int {
	return []int{0, 1, 2, 16, 31, 32, 33, 42, 63, 64, 65, 82, 95, 96, 97, 1000, 4064, 4065, 4095, 4096, 8128, 8129, 8159, 8160}
}

func hmacByLibrary(key, b string) string {
	h := hmac.New(sha256.New, []byte(key))
	h.Write([]byte(b))
	return string(h.Sum(nil))
}

func expandedByLibrary(t *testing.T, key, info string, n int) string {
	t.Helper()
	b, err := hkdf.Expand(sha256.New, []byte(key), info, n)
	if err != nil {
		t.Fatal(err)
	}
	return string(b)
}

func expanded(t *testing.T, key, info string, n int) string {
	t.Helper()
	x, code := impl.HkdfExpand(key, []byte(info), n)
	if code != impl.OK || len(x) != n {
		t.Fatalf("HkdfExpand by a key of %d bytes, info of %d, n of %d is %d bytes, %d", len(key), len(info), n, len(x), code)
	}
	return x
}

func TestP4HashesOfAllSizes(t *testing.T) {
	s := stream(31)
	for _, n := range hashSizes() {
		for _, b := range []string{s.text(n), strings.Repeat("\x00", n), strings.Repeat("\xff", n)} {
			want := sha256.Sum256([]byte(b))
			if h := impl.Hash([]byte(b)); h != string(want[:]) {
				t.Fatalf("Hash of %d bytes is %x, not %x", n, h, want)
			}
		}
	}
}

func TestP4HashesOfFIPS180(t *testing.T) {
	for _, c := range []struct{ text, want string }{
		{"", "e3b0c44298fc1c149afbf4c8996fb92427ae41e4649b934ca495991b7852b855"},
		{"abc", "ba7816bf8f01cfea414140de5dae2223b00361a396177a9cb410ff61f20015ad"},
		{"abcdbcdecdefdefgefghfghighijhijkijkljklmklmnlmnomnopnopq", "248d6a61d20638b8e5c026930c3e6039a33ce45964ff2167f6ecedd419db06c1"},
		{"abcdefghbcdefghicdefghijdefghijkefghijklfghijklmghijklmnhijklmnoijklmnopjklmnopqklmnopqrlmnopqrsmnopqrstnopqrstu",
			"cf5b16a778af8380036ce59e7b0492370b249b11e8f07a51afac45037afee9d1"},
	} {
		if h := impl.Hash([]byte(c.text)); h != unhex(t, c.want) {
			t.Errorf("Hash of %q is %x", c.text, h)
		}
	}
}

// What is filled up with noughts, or already looks filled up, has another hash.
func TestP4FillingsTellHowManyBytesThereAre(t *testing.T) {
	was := map[string]int{}
	for n := range 200 {
		h := impl.Hash(make([]byte, n))
		if m, twice := was[h]; twice {
			t.Fatalf("%d and %d noughts have one hash", m, n)
		}
		was[h] = n
	}
	filled := append([]byte("abc\x80"), make([]byte, 60)...)
	filled[63] = 24
	if impl.Hash(filled) == impl.Hash([]byte("abc")) {
		t.Error("what looks filled up has the hash of what it is filled up of")
	}
}

func TestP4MacsOfRFC4231(t *testing.T) {
	for _, c := range []struct{ key, text, want string }{
		{strings.Repeat("0b", 20), hex.EncodeToString([]byte("Hi There")), "b0344c61d8db38535ca8afceaf0bf12b881dc200c9833da726e9376c2e32cff7"},
		{"4a656665", hex.EncodeToString([]byte("what do ya want for nothing?")), "5bdcc146bf60754e6a042426089575c75a003f089d2739839dec58b964ec3843"},
		{strings.Repeat("aa", 20), strings.Repeat("dd", 50), "773ea91e36800e46854db8ebd09181a72959098b3ef8c122d9635514ced565fe"},
		{"0102030405060708090a0b0c0d0e0f10111213141516171819", strings.Repeat("cd", 50), "82558a389a443c0ea4cc819899f2083a85f0faa3e578f8077a2e3ff46729665b"},
		{strings.Repeat("aa", 131), hex.EncodeToString([]byte("Test Using Larger Than Block-Size Key - Hash Key First")),
			"60e431591ee0b67f0d8a26aacbf5b77f8e0bc6213728c5140546040f0ee37f54"},
		{strings.Repeat("aa", 131), hex.EncodeToString([]byte("This is a test using a larger than block-size key and a larger than block-size data. " +
			"The key needs to be hashed before being used by the HMAC algorithm.")), "9b09ffa71b942fcb27635fbcd5b0e944bfdc63644f0713938a7f51535c3a35e2"},
	} {
		m, code := impl.Hmac([]byte(unhex(t, c.key)), []byte(unhex(t, c.text)))
		if code != impl.OK || m != unhex(t, c.want) {
			t.Errorf("Hmac by %s is %x, %d", c.key, m, code)
		}
	}
}

func TestP4MacsOfAllSizes(t *testing.T) {
	s := stream(32)
	check := func(keySize, size int) {
		key, b := s.text(keySize), s.text(size)
		want := hmacByLibrary(key, b)
		if m, code := impl.Hmac([]byte(key), []byte(b)); code != impl.OK || m != want {
			t.Fatalf("Hmac by %d bytes of %d bytes is %x, %d, not %x", keySize, size, m, code, want)
		}
		if m, code := impl.HkdfExtract([]byte(key), []byte(b)); code != impl.OK || m != want {
			t.Fatalf("HkdfExtract by %d bytes of %d bytes is %x, %d, not %x", keySize, size, m, code, want)
		}
	}
	for n := range 140 {
		check(n, 30)
	}
	for _, keySize := range keySizes() {
		for _, size := range []int{0, 1, 31, 32, 33, 54, 55, 56, 57, 63, 64, 65, 119, 120, 128, impl.MaxText - 64, impl.MaxText - 63, impl.MaxText} {
			check(keySize, size)
		}
	}
}

func TestP4ALongKeyIsItsHash(t *testing.T) {
	s := stream(33)
	for n := 0; n < 140; n++ {
		key := s.text(n)
		long, _ := impl.Hmac([]byte(key), []byte("text"))
		short, _ := impl.Hmac([]byte(impl.Hash([]byte(key))), []byte("text"))
		if (long == short) != (n > 64) {
			t.Errorf("a key of %d bytes is taken as its hash: %t", n, long == short)
		}
		padded, _ := impl.Hmac([]byte(key+"\x00"), []byte("text"))
		if (long == padded) != (n < 64) {
			t.Errorf("a key of %d bytes is filled up with a nought: %t", n, long == padded)
		}
	}
}

func TestP4DrawnOfRFC5869(t *testing.T) {
	rising := func(from, n int) string {
		b := make([]byte, n)
		for i := range b {
			b[i] = byte(from + i)
		}
		return string(b)
	}
	for _, c := range []struct{ secret, salt, info, key, want string }{
		{strings.Repeat("\x0b", 22), rising(0, 13), rising(0xf0, 10), "077709362c2e32df0ddc3f0dc47bba6390b6c73bb50f9c3122ec844ad7c2b3e5",
			"3cb25f25faacd57a90434f64d0362f2a2d2d0a90cf1a5a4c5db02d56ecc4c5bf34007208d5b887185865"},
		{rising(0, 80), rising(0x60, 80), rising(0xb0, 80), "06a6b88c5853361a06104c9ceb35b45cef760014904671014a193f40c15fc244",
			"b11e398dc80327a1c8e7f78c596a49344f012eda2d4efad8a050cc4c19afa97c59045a99cac7827271cb41c65e590e09da3275600c2f09b8367793a9aca3db71" +
				"cc30c58179ec3e87c14c01d5c1f3434f1d87"},
		{strings.Repeat("\x0b", 22), "", "", "19ef24a32c717b167f33a91d6f648bdf96596776afdb6377ac434c1c293ccb04",
			"8da4e775a563c18f715f802a063c5a31b8a11f5c5ee1879ec3454e5f3c738d2d9d201395faa4b61a96c8"},
	} {
		key, code := impl.HkdfExtract([]byte(c.salt), []byte(c.secret))
		if code != impl.OK || key != unhex(t, c.key) {
			t.Errorf("HkdfExtract of %x is %x, %d", c.secret, key, code)
		}
		n := len(c.want) / 2
		if x, code := impl.HkdfExpand(key, []byte(c.info), n); code != impl.OK || x != unhex(t, c.want) {
			t.Errorf("HkdfExpand of %x is %x, %d", key, x, code)
		}
		if x, code := impl.Hkdf([]byte(c.salt), []byte(c.secret), []byte(c.info), n); code != impl.OK || x != unhex(t, c.want) {
			t.Errorf("Hkdf of %x is %x, %d", c.secret, x, code)
		}
	}
}

func TestP4DrawnOfAllSizes(t *testing.T) {
	s := stream(34)
	for _, n := range drawnSizes() {
		for _, keySize := range []int{0, 1, 32, 63, 64, 65, 200} {
			for _, infoSize := range []int{0, 1, 22, 23, 31, 54, 55, 64, 86, 87, 100} {
				key, info := s.text(keySize), s.text(infoSize)
				if x := expanded(t, key, info, n); x != expandedByLibrary(t, key, info, n) {
					t.Fatalf("HkdfExpand by %d bytes, with info of %d, of %d bytes is another", keySize, infoSize, n)
				}
			}
		}
	}
	for _, n := range []int{0, 1, 32, 33, 64, 65} {
		key, info := s.text(impl.MaxText), s.text(impl.MaxText)
		if x := expanded(t, key, info, n); x != expandedByLibrary(t, key, info, n) {
			t.Fatalf("HkdfExpand by MaxText bytes, with info of MaxText, of %d bytes is another", n)
		}
	}
}

func TestP4BothAtOnceAreBoth(t *testing.T) {
	s := stream(35)
	for i, n := range drawnSizes() {
		sizes := keySizes()
		salt, secret, info := s.text(sizes[i%len(sizes)]), s.text(sizes[(i*5+3)%len(sizes)]), s.text(i*7%200)
		want := expandedByLibrary(t, hmacByLibrary(salt, secret), info, n)
		if x, code := impl.Hkdf([]byte(salt), []byte(secret), []byte(info), n); code != impl.OK || x != want {
			t.Fatalf("Hkdf of %d, %d and %d bytes, of %d bytes is another, %d", len(salt), len(secret), len(info), n, code)
		}
	}
}

func TestP4WhatIsDrawnIsTheBeginningOfMore(t *testing.T) {
	s := stream(36)
	key, salt, secret, info := s.text(32), s.text(13), s.text(40), s.text(10)
	most := expanded(t, key, info, 8160)
	both, code := impl.Hkdf([]byte(salt), []byte(secret), []byte(info), 8160)
	if code != impl.OK || len(both) != 8160 {
		t.Fatal(len(both), code)
	}
	sizes := drawnSizes()
	for n := range 300 {
		sizes = append(sizes, n, 8160-n)
	}
	for _, n := range sizes {
		if expanded(t, key, info, n) != most[:n] {
			t.Fatalf("the %d bytes that HkdfExpand draws are not the first ones", n)
		}
		if x, code := impl.Hkdf([]byte(salt), []byte(secret), []byte(info), n); code != impl.OK || x != both[:n] {
			t.Fatalf("the %d bytes that Hkdf draws are not the first ones, %d", n, code)
		}
	}
}

func TestP4NoTwoBlocksThatAreDrawnAreTheSame(t *testing.T) {
	most := expanded(t, "key", "info", 8160)
	was := map[string]int{}
	for i := range 255 {
		block := most[32*i : 32*i+32]
		if m, twice := was[block]; twice {
			t.Fatalf("the blocks %d and %d are the same", m, i)
		}
		was[block] = i
		ahead := ""
		if i > 0 {
			ahead = most[32*i-32 : 32*i]
		}
		if block != hmacByLibrary("key", ahead+"info"+string([]byte{byte(i + 1)})) {
			t.Fatalf("the block %d is not that of its number", i+1)
		}
	}
}

func TestP4DigitsOfBytes(t *testing.T) {
	var all []byte
	for i := range 256 {
		all = append(all, byte(i))
		b := []byte{byte(i)}
		if x, code := impl.HexText(string(b)); code != impl.OK || x != hex.EncodeToString(b) {
			t.Errorf("HexText of %d is %q, %d", i, x, code)
		}
	}
	if x, code := impl.HexText(string(all)); code != impl.OK || x != hex.EncodeToString(all) {
		t.Errorf("HexText of all bytes is %q, %d", x, code)
	}
	s := stream(37)
	for _, n := range hashSizes() {
		b := s.text(n)
		if x, code := impl.HexText(b); code != impl.OK || x != hex.EncodeToString([]byte(b)) {
			t.Errorf("HexText of %d bytes is %d digits, %d", n, len(x), code)
		}
	}
	if x, code := impl.HexText("ä€\U0001f600"); code != impl.OK || x != "c3a4e282acf09f9880" { // bytes, not runes
		t.Errorf("HexText of runes is %q, %d", x, code)
	}
}

func equalBothWays(t *testing.T, a, b []byte, want bool) {
	t.Helper()
	if same, code := impl.EqualBytes(a, b); same != want || code != impl.OK {
		t.Errorf("EqualBytes of %d and %d bytes is %t, %d", len(a), len(b), same, code)
	}
	if same, code := impl.EqualBytes(b, a); same != want || code != impl.OK {
		t.Errorf("EqualBytes of %d and %d bytes is %t, %d", len(b), len(a), same, code)
	}
}

func TestP4EqualJustIfTheyAre(t *testing.T) {
	s := stream(38)
	for _, n := range []int{0, 1, 2, 3, 15, 16, 17, 32, 64, 255, 256, 257, 1000, impl.MaxText - 1, impl.MaxText} {
		a := []byte(s.text(n))
		b := bytes.Clone(a)
		equalBothWays(t, a, b, true)
		equalBothWays(t, a, a, true)
		if n == 0 {
			continue
		}
		for _, at := range []int{0, n / 2, n - 1} {
			for bit := range 8 {
				b[at] ^= 1 << bit
				equalBothWays(t, a, b, false)
				b[at] ^= 1 << bit
			}
			b[at]++
			equalBothWays(t, a, b, false)
			b[at]--
		}
		equalBothWays(t, a, b[:n-1], false)
		equalBothWays(t, a, b[1:], false)
		equalBothWays(t, a, nil, false)
	}
}

func TestP4EveryPairOfBytes(t *testing.T) {
	for a := range 256 {
		for b := range 256 {
			if same, code := impl.EqualBytes([]byte{byte(a)}, []byte{byte(b)}); same != (a == b) || code != impl.OK {
				t.Fatalf("EqualBytes of %d and %d is %t, %d", a, b, same, code)
			}
		}
	}
}

func TestP4NearlyEqualTexts(t *testing.T) {
	for _, c := range []struct {
		a, b string
		want bool
	}{
		{"", "", true}, {"", "\x00", false}, {"\x00", "\x00\x00", false}, {"a", "a\x00", false}, {"a", "\x00a", false},
		{"ab", "ba", false}, {"aa", "bb", false}, {"ab", "ab", true}, {"abc", "abd", false}, {"abc", "bbc", false},
		{"\x01\x02", "\x02\x01", false}, {"a", "A", false}, {"abab", "ab", false}, {"\x80", "\x00", false}, {"\xff\x01", "\xff\x01", true},
		{"\x80\x80", "\x00\x00", false}, {"\x01\xff", "\x00\xfe", false},
	} {
		equalBothWays(t, []byte(c.a), []byte(c.b), c.want)
	}
	if same, code := impl.EqualBytes(nil, []byte{}); !same || code != impl.OK {
		t.Errorf("EqualBytes of nil and an empty list is %t, %d", same, code)
	}
}
