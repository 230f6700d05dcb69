package tests

import (
	"bytes"
	"crypto/aes"
	"crypto/cipher"
	"encoding/binary"
	"testing"

	"loop.example/g00257/impl"
)

const someNonce = "nonceofbytes"

// edgeSizes are all sizes of the first blocks, and the greatest ones that can be padded.
func edgeSizes() []int {
	var sizes []int
	for n := range 50 {
		sizes = append(sizes, n)
	}
	return append(sizes, 255, 256, 257, 4095, 4096, 4097, impl.MaxText-33, impl.MaxText-32, impl.MaxText-31, impl.MaxText-17, impl.MaxText-16)
}

func streamSizes() []int {
	return append(edgeSizes(), impl.MaxText-15, impl.MaxText-1, impl.MaxText)
}

func ready(t *testing.T, key string) cipher.Block {
	t.Helper()
	c, err := aes.NewCipher([]byte(key))
	if err != nil {
		t.Fatal(err)
	}
	return c
}

func paddedByRule(b []byte) []byte {
	out := bytes.Clone(b)
	n := 16 - len(b)%16
	for range n {
		out = append(out, byte(n))
	}
	return out
}

func TestP3WhatIsPaddedIsUndone(t *testing.T) {
	s := stream(5)
	for _, n := range edgeSizes() {
		b := []byte(s.text(n))
		p, code := impl.PadBlocks(b)
		if code != impl.OK || !bytes.Equal(p, paddedByRule(b)) {
			t.Fatalf("PadBlocks of %d bytes is %d bytes, %d", n, len(p), code)
		}
		if back, code := impl.UnpadBlocks(p); code != impl.OK || !bytes.Equal(back, b) {
			t.Fatalf("UnpadBlocks of %d padded bytes is %d bytes, %d", n, len(back), code)
		}
	}
}

func TestP3WhatLooksPaddedIsPaddedAgain(t *testing.T) {
	for n := range 17 {
		b := bytes.Repeat([]byte{byte(n)}, 16) // for 1 to 16 its end is a filling
		p, code := impl.PadBlocks(b)
		if code != impl.OK || len(p) != 32 || p[16] != 16 || p[31] != 16 {
			t.Fatalf("PadBlocks of 16 bytes %d is %v, %d", n, p, code)
		}
		if back, code := impl.UnpadBlocks(p); code != impl.OK || !bytes.Equal(back, b) {
			t.Fatalf("UnpadBlocks of 16 padded bytes %d is %v, %d", n, back, code)
		}
	}
}

func TestP3EveryFillingIsTakenOff(t *testing.T) {
	for _, size := range []int{16, 32, 48, impl.MaxText} {
		for n := 1; n <= 16; n++ {
			b := append(bytes.Repeat([]byte{0xee}, size-n), bytes.Repeat([]byte{byte(n)}, n)...)
			if out, code := impl.UnpadBlocks(b); code != impl.OK || !bytes.Equal(out, b[:size-n]) {
				t.Fatalf("UnpadBlocks of %d bytes, %d of them filled, is %d bytes, %d", size, n, len(out), code)
			}
		}
	}
	b := bytes.Repeat([]byte{2}, 32) // more bytes look like the filling than it has
	if out, code := impl.UnpadBlocks(b); code != impl.OK || !bytes.Equal(out, b[:30]) {
		t.Errorf("UnpadBlocks of 32 bytes 2 is %v, %d", out, code)
	}
}

func TestP3WhatIsPutOnWithAStreamIsUndone(t *testing.T) {
	s := stream(6)
	for i, n := range streamSizes() {
		key, nonce, b := s.text(16+i%2*16), s.text(12), []byte(s.text(n))
		x, code := impl.CtrXor(key, nonce, b)
		if code != impl.OK || len(x) != n || n > 20 && bytes.Equal(x, b) {
			t.Fatalf("CtrXor of %d bytes is %d bytes, %d", n, len(x), code)
		}
		if back, code := impl.CtrXor(key, nonce, x); code != impl.OK || !bytes.Equal(back, b) {
			t.Fatalf("CtrXor twice of %d bytes is %d bytes, %d", n, len(back), code)
		}
	}
}

func TestP3TheStreamIsOfNonceAndCounter(t *testing.T) {
	s := stream(7)
	for i, n := range streamSizes() {
		key, nonce, b := s.text(16+i%2*16), s.text(12), []byte(s.text(n))
		want := make([]byte, n)
		cipher.NewCTR(ready(t, key), []byte(nonce+"\x00\x00\x00\x01")).XORKeyStream(want, b)
		if x, code := impl.CtrXor(key, nonce, b); code != impl.OK || !bytes.Equal(x, want) {
			t.Fatalf("CtrXor of %d bytes is another stream's, %d", n, code)
		}
	}
}

func TestP3TheCounterGoesUpByOneABlock(t *testing.T) {
	x, code := impl.CtrXor(someKey, someNonce, make([]byte, impl.MaxText))
	if code != impl.OK || len(x) != impl.MaxText {
		t.Fatal(len(x), code)
	}
	for _, i := range []int{0, 1, 2, 254, 255, 256, 4094, 4095} {
		count := binary.BigEndian.AppendUint32(nil, uint32(i+1))
		want, _ := impl.EncryptBlock(someKey, someNonce+string(count))
		if string(x[16*i:16*i+16]) != want {
			t.Errorf("block %d of the stream is not that of the counter %d", i, i+1)
		}
	}
}

func TestP3StreamsOfRFC3686(t *testing.T) {
	for _, c := range []struct{ key, nonce, text, want string }{
		{"ae6852f8121067cc4bf7a5765577f39e", "000000300000000000000000", "53696e676c6520626c6f636b206d7367", "e4095d4fb7a7b3792d6175a3261311b8"},
		{"7e24067817fae0d743d6ce1f32539163", "006cb6dbc0543b59da48d90b", "000102030405060708090a0b0c0d0e0f101112131415161718191a1b1c1d1e1f",
			"5104a106168a72d9790d41ee8edad388eb2e1efc46da57c8fce630df9141be28"},
		{"776beff2851db06f4c8a0542c8696f6c6a81af1eec96b4d37fc1d689e6c1c104", "00000060db5672c97aa8f0b2", "53696e676c6520626c6f636b206d7367", "145ad01dbf824ec7560863dc71e3e0c0"},
	} {
		if x, code := impl.CtrXor(unhex(t, c.key), unhex(t, c.nonce), []byte(unhex(t, c.text))); code != impl.OK || string(x) != unhex(t, c.want) {
			t.Errorf("CtrXor with the key %s is %x, %d", c.key, x, code)
		}
	}
}

func TestP3WhatIsChainedIsUndone(t *testing.T) {
	s := stream(8)
	for i, n := range edgeSizes() {
		key, first, b := s.text(16+i%2*16), s.text(16), []byte(s.text(n))
		x, code := impl.CbcEncrypt(key, first, b)
		if code != impl.OK || len(x) != n/16*16+16 {
			t.Fatalf("CbcEncrypt of %d bytes is %d bytes, %d", n, len(x), code)
		}
		if back, code := impl.CbcDecrypt(key, first, x); code != impl.OK || !bytes.Equal(back, b) {
			t.Fatalf("CbcDecrypt of %d chained bytes is %d bytes, %d", n, len(back), code)
		}
	}
}

func TestP3ChainsAreOfPaddedBlocks(t *testing.T) {
	s := stream(9)
	for i, n := range edgeSizes() {
		key, first, b := s.text(16+i%2*16), s.text(16), []byte(s.text(n))
		want := paddedByRule(b)
		cipher.NewCBCEncrypter(ready(t, key), []byte(first)).CryptBlocks(want, want)
		if x, code := impl.CbcEncrypt(key, first, b); code != impl.OK || !bytes.Equal(x, want) {
			t.Fatalf("CbcEncrypt of %d bytes is another chain, %d", n, code)
		}
		if back, code := impl.CbcDecrypt(key, first, want); code != impl.OK || !bytes.Equal(back, b) {
			t.Fatalf("CbcDecrypt of a chain of %d bytes is %d bytes, %d", n, len(back), code)
		}
	}
}

func TestP3ChainsOfSP800(t *testing.T) {
	// SP 800-38A, F.2.1 and F.2.5: four whole blocks, so that a block of padding is behind
	text := unhex(t, "6bc1bee22e409f96e93d7e117393172aae2d8a571e03ac9c9eb76fac45af8e5130c81c46a35ce411e5fbc1191a0a52eff69f2445df4f9b17ad2b417be66c3710")
	first := unhex(t, "000102030405060708090a0b0c0d0e0f")
	for _, c := range []struct{ key, want string }{
		{"2b7e151628aed2a6abf7158809cf4f3c", "7649abac8119b246cee98e9b12e9197d5086cb9b507219ee95db113a917678b273bed6b8e3c1743b7116e69e222295163ff1caa1681fac09120eca307586e1a7"},
		{"603deb1015ca71be2b73aef0857d77811f352c073b6108d72d9810a30914dff4", "f58c4c04d6e5f1ba779eabfb5f7bfbd69cfc4e967edb808d679f777bc6702c7d39f23369a9d9bacfa530e26304231461b2eb05e2c39be9fcda6c19078c6a9d1b"},
	} {
		x, code := impl.CbcEncrypt(unhex(t, c.key), first, []byte(text))
		if code != impl.OK || len(x) != 80 || string(x[:64]) != unhex(t, c.want) {
			t.Errorf("CbcEncrypt with the key %s is %x, %d", c.key, x, code)
		}
	}
}

func TestP3MacsOfSP800(t *testing.T) {
	// SP 800-38B, D.1 and D.3 (D.1 is RFC 4493 too): nothing, a whole block, two and a half, four whole ones
	text := []byte(unhex(t, "6bc1bee22e409f96e93d7e117393172aae2d8a571e03ac9c9eb76fac45af8e5130c81c46a35ce411e5fbc1191a0a52eff69f2445df4f9b17ad2b417be66c3710"))
	for _, c := range []struct {
		key  string
		want map[int]string
	}{
		{"2b7e151628aed2a6abf7158809cf4f3c", map[int]string{
			0: "bb1d6929e95937287fa37d129b756746", 16: "070a16b46b4d4144f79bdd9dd04a287c", 40: "dfa66747de9ae63030ca32611497c827", 64: "51f0bebf7e3b9d92fc49741779363cfe"}},
		{"603deb1015ca71be2b73aef0857d77811f352c073b6108d72d9810a30914dff4", map[int]string{
			0: "028962f61b7bf89efc6b551f4667d983", 16: "28a7023f452e8f82bd4bf28d8c37c35c", 40: "aaf3d8f1de5640c232f5b169b9c911e6", 64: "e1992190549f6ed5696a2c056c315410"}},
	} {
		for n, want := range c.want {
			if m, code := impl.Cmac(unhex(t, c.key), text[:n]); code != impl.OK || m != unhex(t, want) {
				t.Errorf("Cmac of %d bytes with the key %s is %x, %d", n, c.key, m, code)
			}
		}
	}
}

func doubledByRule(b []byte) []byte {
	high, low := binary.BigEndian.Uint64(b[:8]), binary.BigEndian.Uint64(b[8:])
	out := binary.BigEndian.AppendUint64(nil, high<<1|low>>63)
	out = binary.BigEndian.AppendUint64(out, low<<1)
	if high>>63 == 1 {
		out[15] ^= 0x87
	}
	return out
}

// macByRule chains all blocks at once, the last one masked ahead, and takes the last of the chain.
func macByRule(c cipher.Block, b []byte) string {
	mask := make([]byte, 16)
	c.Encrypt(mask, mask)
	mask = doubledByRule(mask)
	all := bytes.Clone(b)
	if len(all) == 0 || len(all)%16 != 0 {
		mask = doubledByRule(mask)
		all = append(all, 0x80)
		for len(all)%16 != 0 {
			all = append(all, 0)
		}
	}
	for i, m := range mask {
		all[len(all)-16+i] ^= m
	}
	cipher.NewCBCEncrypter(c, make([]byte, 16)).CryptBlocks(all, all)
	return string(all[len(all)-16:])
}

func TestP3MacsOfAllSizes(t *testing.T) {
	s := stream(10)
	for range 4 { // so that both doublings lose a bit of either kind
		for i, n := range streamSizes() {
			key, b := s.text(16+i%2*16), []byte(s.text(n))
			if m, code := impl.Cmac(key, b); code != impl.OK || m != macByRule(ready(t, key), b) {
				t.Fatalf("Cmac of %d bytes with the key %x is %x, %d", n, key, m, code)
			}
		}
	}
}

func TestP3WholeAndFilledBlocksHaveOtherMacs(t *testing.T) {
	seen := map[string]int{}
	b := append([]byte{0x80}, make([]byte, 47)...)
	for n := range 49 { // what is filled up may look just as what is whole
		m, code := impl.Cmac(someKey, b[:n])
		if was, ok := seen[m]; code != impl.OK || len(m) != 16 || ok {
			t.Fatalf("Cmac of %d bytes is that of %d, %d", n, was, code)
		}
		seen[m] = n
	}
}
