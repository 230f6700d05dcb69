package tests

import (
	"bytes"
	"crypto/cipher"
	"encoding/binary"
	"strings"
	"testing"

	"loop.example/g00257/impl"
)

var (
	sealKey = strings.Repeat(someKey, 2)

	// wordEdges are numbers that four bytes hold, those at which a byte more is needed among them.
	wordEdges = []int{0, 1, 2, 127, 128, 255, 256, 257, 65535, 65536, 1<<24 - 1, 1 << 24, 1<<31 - 1, 1 << 31, 4294967294, 4294967295}
)

func sealSizes() []int {
	return []int{0, 1, 2, 14, 15, 16, 17, 31, 32, 33, 34, 63, 64, 65, 200, 1000, impl.MaxText - 17, impl.MaxText - 16}
}

func extraSizes() []int {
	return []int{0, 1, 4, 12, 16, 47, 48, 49, 64, 255, 256, 257, 1000, impl.MaxText - 1, impl.MaxText}
}

// keysByRule are the keys to encrypt and to tag, by the library.
func keysByRule(t *testing.T, key string) (string, string) {
	t.Helper()
	both := expandedByLibrary(t, hmacByLibrary("seal", key), "keys", 64)
	return both[:32], both[32:]
}

// sealedByRule takes both keys as they are, so that a test may hand in others than a key's own.
func sealedByRule(t *testing.T, encrypts, tags, nonce, extra, b string) string {
	t.Helper()
	out := []byte(b)
	cipher.NewCTR(ready(t, encrypts), []byte(nonce+"\x00\x00\x00\x01")).XORKeyStream(out, out)
	size := string(binary.BigEndian.AppendUint32(nil, uint32(len(extra))))
	return string(out) + hmacByLibrary(tags, nonce+size+extra+string(out))[:16]
}

func sealed(t *testing.T, key, nonce, extra, b string) string {
	t.Helper()
	x, code := impl.SealBytes(key, nonce, []byte(extra), []byte(b))
	if code != impl.OK || len(x) != len(b)+16 {
		t.Fatalf("SealBytes of %d bytes beside %d is %d bytes, %d", len(b), len(extra), len(x), code)
	}
	return string(x)
}

func opens(t *testing.T, key, nonce, extra, x, want string) {
	t.Helper()
	b, code := impl.OpenBytes(key, nonce, []byte(extra), []byte(x))
	if code != impl.OK || string(b) != want {
		t.Fatalf("OpenBytes of %d bytes beside %d is %d bytes, %d, not the %d that were sealed", len(x), len(extra), len(b), code, len(want))
	}
}

func staysSealed(t *testing.T, why, key, nonce, extra, x string) {
	t.Helper()
	b, code := impl.OpenBytes(key, nonce, []byte(extra), []byte(x))
	if code != impl.ErrSealed || len(b) != 0 {
		t.Errorf("%s: OpenBytes of %d bytes is %d bytes, %d", why, len(x), len(b), code)
	}
}

func withBit(b string, bit int) string {
	out := []byte(b)
	out[bit/8] ^= 1 << (bit % 8)
	return string(out)
}

func TestP5KeysOfAKey(t *testing.T) {
	s := stream(51)
	keys := []string{strings.Repeat("\x00", 32), strings.Repeat("\xff", 32), sealKey, strings.Repeat("s", 32)}
	for range 50 {
		keys = append(keys, s.text(32))
	}
	was := map[string]bool{}
	for _, key := range keys {
		first, second := keysByRule(t, key)
		encrypts, tags, code := impl.SealKeys(key)
		if encrypts != first || tags != second || code != impl.OK {
			t.Errorf("SealKeys of %x is %x, %x, %d, not %x, %x", key, encrypts, tags, code, first, second)
		}
		for _, k := range []string{key, encrypts, tags} {
			if was[k] {
				t.Errorf("the key %x comes twice", k)
			}
			was[k] = true
		}
	}
}

func TestP5NoncesOfPlacesAndVersions(t *testing.T) {
	was := map[string][2]int{}
	for _, place := range wordEdges {
		for _, version := range wordEdges {
			want := binary.BigEndian.AppendUint32(make([]byte, 4), uint32(place))
			want = binary.BigEndian.AppendUint32(want, uint32(version))
			nonce, code := impl.SealNonce(place, version)
			if nonce != string(want) || code != impl.OK {
				t.Errorf("SealNonce of %d and %d is %x, %d, not %x", place, version, nonce, code, want)
			}
			if other, twice := was[nonce]; twice {
				t.Errorf("SealNonce of %d and %d is that of %v", place, version, other)
			}
			was[nonce] = [2]int{place, version}
		}
	}
}

// Worked out by another program than this one and the library that the other tests ask.
func TestP5SealsWorkedOutElsewhere(t *testing.T) {
	var rising strings.Builder
	for i := range 32 {
		rising.WriteByte(byte(i))
	}
	key := rising.String()
	encrypts, tags, code := impl.SealKeys(key)
	if encrypts != unhex(t, "6a388ee456a467f26b74a0aea7158fb56b605c07be2f89a776b2bbed365ff50e") || tags != unhex(t, "6fab81ca90cd20632e5596b61d97660e9b799e4db65d8da63c9a884fcc79fda6") || code != impl.OK {
		t.Errorf("SealKeys is %x, %x, %d", encrypts, tags, code)
	}
	for _, c := range []struct {
		place, version int
		extra, b, want string
	}{
		{0, 0, "", "", "ef46ffff81d491e40768a97d40bf4f4c"},
		{1, 4294967295, "slot", "what is sealed", "ad6c0088b032be80d942b78886f332067b0128ee2c8bbe5f200392f59992"},
		{258, 3, "extra", strings.Repeat("0123456789", 4), "f9307d7f24e1348e7686bd16b1cec49e534c7336c44d3ecdbda5db3ad0553d9801c764933231af6b7669358c643b4576da31386fc490f065"},
	} {
		nonce, _ := impl.SealNonce(c.place, c.version)
		if x := sealed(t, key, nonce, c.extra, c.b); x != unhex(t, c.want) {
			t.Errorf("SealBytes of %q is %x", c.b, x)
		}
		opens(t, key, nonce, c.extra, unhex(t, c.want), c.b)
	}
}

func TestP5SealsAreAsTheRuleHasThem(t *testing.T) {
	s := stream(52)
	check := func(extraSize, size int) {
		key, nonce, extra, b := s.text(32), s.text(12), s.text(extraSize), s.text(size)
		encrypts, tags := keysByRule(t, key)
		want := sealedByRule(t, encrypts, tags, nonce, extra, b)
		if x := sealed(t, key, nonce, extra, b); x != want {
			t.Fatalf("SealBytes of %d bytes beside %d is another than by the rule", size, extraSize)
		}
		opens(t, key, nonce, extra, want, b)
	}
	for size := range 140 {
		check(size%7, size)
		check(size, 20)
	}
	for _, size := range sealSizes() {
		check(5, size)
	}
	for _, extraSize := range extraSizes() {
		check(extraSize, 33)
	}
	check(0, 0)
	check(impl.MaxText, impl.MaxText-16)
	check(impl.MaxText, 0)
}

func TestP5WhatIsSealedOpensAsWhatItWas(t *testing.T) {
	s := stream(53)
	for _, size := range sealSizes() {
		for _, extraSize := range []int{0, 1, 16, 33} {
			for _, b := range []string{s.text(size), strings.Repeat("\x00", size), strings.Repeat("\xff", size)} {
				key, extra := s.text(32), s.text(extraSize)
				nonce, _ := impl.SealNonce(size, extraSize)
				opens(t, key, nonce, extra, sealed(t, key, nonce, extra, b), b)
			}
		}
	}
	for _, extraSize := range extraSizes() {
		extra := s.text(extraSize)
		opens(t, sealKey, someNonce, extra, sealed(t, sealKey, someNonce, extra, "bytes"), "bytes")
	}
	for _, place := range wordEdges {
		for _, version := range wordEdges {
			nonce, _ := impl.SealNonce(place, version)
			opens(t, sealKey, nonce, "slot", sealed(t, sealKey, nonce, "slot", "bytes"), "bytes")
		}
	}
}

func TestP5ASealThatIsSealedAgain(t *testing.T) {
	once := sealed(t, sealKey, someNonce, "", "bytes")
	twice := sealed(t, sealKey, someNonce, "", once)
	opens(t, sealKey, someNonce, "", twice, once)
	opens(t, sealKey, someNonce, "", once, "bytes")
}

func TestP5OneBitOfASealIsChanged(t *testing.T) {
	s := stream(54)
	for _, size := range []int{0, 1, 15, 16, 17, 33} {
		for _, extra := range []string{"", "extra of some bytes"} {
			key, nonce, b := s.text(32), s.text(12), s.text(size)
			x := sealed(t, key, nonce, extra, b)
			for bit := range 8 * len(x) { // in what was encrypted, then in the tag
				staysSealed(t, "a bit of the seal", key, nonce, extra, withBit(x, bit))
			}
			for bit := range 8 * len(nonce) {
				staysSealed(t, "a bit of the nonce", key, withBit(nonce, bit), extra, x)
			}
			for bit := range 8 * len(extra) {
				staysSealed(t, "a bit of extra", key, nonce, withBit(extra, bit), x)
			}
			for bit := range 8 * len(key) {
				staysSealed(t, "a bit of the key", withBit(key, bit), nonce, extra, x)
			}
			opens(t, key, nonce, extra, x, b)
		}
	}
}

func TestP5OneBitOfTheLongestIsChanged(t *testing.T) {
	s := stream(55)
	extra, b := s.text(impl.MaxText), s.text(impl.MaxText-16)
	x := sealed(t, sealKey, someNonce, extra, b)
	for _, at := range []int{0, impl.MaxText / 2, impl.MaxText - 17, impl.MaxText - 16, impl.MaxText - 1} {
		staysSealed(t, "a bit of the seal", sealKey, someNonce, extra, withBit(x, 8*at))
		staysSealed(t, "a bit of extra", sealKey, someNonce, withBit(extra, 8*at+7), x)
	}
	opens(t, sealKey, someNonce, extra, x, b)
}

func TestP5WhatIsCutOrLengthenedStaysSealed(t *testing.T) {
	x := sealed(t, sealKey, someNonce, "extra", "bytes of more than one block")
	for n := 16; n < len(x); n++ {
		staysSealed(t, "cut at its end", sealKey, someNonce, "extra", x[:n])
		staysSealed(t, "cut at its beginning", sealKey, someNonce, "extra", x[len(x)-n:])
		staysSealed(t, "cut in its middle", sealKey, someNonce, "extra", x[:n-16]+x[len(x)-16:])
	}
	for _, more := range []string{"\x00", "\xff", someKey, x} {
		staysSealed(t, "longer at its end", sealKey, someNonce, "extra", x+more)
		staysSealed(t, "longer at its beginning", sealKey, someNonce, "extra", more+x)
	}
	for n := range 5 {
		staysSealed(t, "less extra", sealKey, someNonce, "extra"[:n], x)
	}
	staysSealed(t, "more extra", sealKey, someNonce, "extra\x00", x)
}

// A byte that goes over from extra to what is encrypted would leave all that is tagged as it was, but for the length.
func TestP5NoByteGoesOverFromExtra(t *testing.T) {
	x := sealed(t, sealKey, someNonce, "extra", "bytes")
	for n := range 5 {
		staysSealed(t, "extra goes over", sealKey, someNonce, "extra"[:n], "extra"[n:]+x)
	}
	for n := 1; n <= 5; n++ {
		staysSealed(t, "extra takes over", sealKey, someNonce, "extra"+x[:n], x[n:])
	}
}

func TestP5EveryKeyHasItsUse(t *testing.T) {
	encrypts, tags := keysByRule(t, sealKey)
	right := sealedByRule(t, encrypts, tags, someNonce, "extra", "bytes")
	opens(t, sealKey, someNonce, "extra", right, "bytes")
	for why, pair := range map[string][2]string{
		"the keys are changed":     {tags, encrypts},
		"one key to tag, too":      {encrypts, encrypts},
		"the key itself tags":      {encrypts, sealKey},
		"tags by a key of no text": {encrypts, ""},
	} {
		staysSealed(t, why, sealKey, someNonce, "extra", sealedByRule(t, pair[0], pair[1], someNonce, "extra", "bytes"))
	}
	// The tag is of what is encrypted: another stream with a right tag opens as other bytes.
	other := sealedByRule(t, tags, tags, someNonce, "extra", "bytes")
	b, code := impl.OpenBytes(sealKey, someNonce, []byte("extra"), []byte(other))
	if code != impl.OK || string(b) == "bytes" {
		t.Errorf("what another key encrypted opens as %q, %d", b, code)
	}
}

func TestP5SealsOfOthersStaySealed(t *testing.T) {
	s := stream(56)
	other := s.text(32)
	x := sealed(t, sealKey, someNonce, "extra", "bytes")
	y := sealed(t, sealKey, someNonce, "extra", "other")
	staysSealed(t, "the tag of another text", sealKey, someNonce, "extra", x[:5]+y[5:])
	staysSealed(t, "another key", other, someNonce, "extra", x)
	staysSealed(t, "no tag", sealKey, someNonce, "extra", x[:5]+strings.Repeat("\x00", 16))
	staysSealed(t, "noughts alone", sealKey, someNonce, "", strings.Repeat("\x00", 16))
	first, _ := impl.SealNonce(1, 2)
	for _, c := range [][2]int{{2, 1}, {1, 1}, {1, 3}, {0, 2}, {2, 2}, {0, 0}, {1, 258}, {257, 2}} {
		nonce, _ := impl.SealNonce(c[0], c[1])
		staysSealed(t, "another place or version", sealKey, nonce, "extra", sealed(t, sealKey, first, "extra", "bytes"))
	}
}

// The text of a seal does not tell which bytes were sealed twice under two nonces.
func TestP5NoTwoNoncesHaveOneStream(t *testing.T) {
	was := map[string]bool{}
	for version := range 100 {
		nonce, _ := impl.SealNonce(7, version)
		x := []byte(sealed(t, sealKey, nonce, "", strings.Repeat("\x00", 32)))
		for _, piece := range [][]byte{x[:16], x[16:32], x[32:]} {
			if was[string(piece)] || bytes.Equal(piece, make([]byte, 16)) {
				t.Fatalf("%x comes twice, or is nothing", piece)
			}
			was[string(piece)] = true
		}
	}
}
