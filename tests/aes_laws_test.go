package tests

import (
	"crypto/aes"
	"slices"
	"testing"

	"loop.example/g00257/impl"
)

func mul(t *testing.T, a, b int) int {
	t.Helper()
	n, code := impl.GfMul(a, b)
	if code != impl.OK || n < 0 || n > 255 {
		t.Fatalf("GfMul(%d, %d) is %d, %d", a, b, n, code)
	}
	return n
}

// longMul multiplies all bits first and divides by 0x11b after.
func longMul(a, b int) int {
	p := 0
	for i := range 8 {
		p ^= a * (b >> i & 1) << i
	}
	for i := 14; i >= 8; i-- {
		if p>>i&1 == 1 {
			p ^= 0x11b << (i - 8)
		}
	}
	return p
}

func TestP2ProductsAreOfPolynomials(t *testing.T) {
	for a := range 256 {
		for b := range 256 {
			if n := mul(t, a, b); n != longMul(a, b) {
				t.Fatalf("GfMul(%d, %d) is %d", a, b, n)
			}
		}
	}
}

func TestP2FieldLaws(t *testing.T) {
	for a := range 256 {
		if mul(t, a, 1) != a || mul(t, a, 0) != 0 {
			t.Fatalf("%d times 1 or 0", a)
		}
		for b := range 256 {
			ab := mul(t, a, b)
			if ab != mul(t, b, a) {
				t.Fatalf("%d times %d hangs on the order", a, b)
			}
			if ab == 0 && a != 0 && b != 0 {
				t.Fatalf("%d times %d is 0", a, b)
			}
			for c := 1; c < 256; c *= 2 { // every byte is a sum of these
				if mul(t, ab, c) != mul(t, a, mul(t, b, c)) {
					t.Fatalf("%d, %d, %d: products hang on brackets", a, b, c)
				}
				if mul(t, a, b^c) != ab^mul(t, a, c) {
					t.Fatalf("%d, %d, %d: products do not go over sums", a, b, c)
				}
			}
		}
	}
}

func TestP2Inverses(t *testing.T) {
	for a := 1; a < 256; a++ {
		n, code := impl.GfInverse(a)
		if code != impl.OK || mul(t, a, n) != 1 {
			t.Errorf("GfInverse(%d) is %d, %d", a, n, code)
		}
	}
}

func TestP2Substitutes(t *testing.T) {
	var seen [256]bool
	for a := range 256 {
		n, code := impl.SubByte(a)
		if code != impl.OK || n < 0 || n > 255 || seen[n] {
			t.Fatalf("SubByte(%d) is %d, %d", a, n, code)
		}
		seen[n] = true
		if n != substituteByRule(a) {
			t.Errorf("SubByte(%#x) is %#x", a, n)
		}
		if back, code := impl.UnsubByte(n); code != impl.OK || back != a {
			t.Errorf("UnsubByte(%#x) is %#x, %d", n, back, code)
		}
	}
}

func substituteByRule(a int) int {
	inverse := 0
	for b := range 256 {
		if longMul(a, b) == 1 {
			inverse = b
		}
	}
	sum := inverse ^ 0x63
	for n := 1; n <= 4; n++ {
		sum ^= inverse<<n&255 | inverse>>(8-n)
	}
	return sum
}

func mixed(t *testing.T, col []int) []int {
	t.Helper()
	m, code := impl.MixColumn(col)
	if code != impl.OK || len(m) != 4 {
		t.Fatalf("MixColumn(%v) is %v, %d", col, m, code)
	}
	return m
}

func TestP2Mixing(t *testing.T) {
	s := stream(2)
	for range 3000 {
		x, y := s.column(), s.column()
		sum, want := make([]int, 4), make([]int, 4)
		mx, my := mixed(t, x), mixed(t, y)
		for i := range sum {
			sum[i], want[i] = x[i]^y[i], mx[i]^my[i]
		}
		if !slices.Equal(mixed(t, sum), want) {
			t.Fatalf("mixing does not go over the sum of %v and %v", x, y)
		}
		for i := range mx {
			if mx[i] != longMul(2, x[i])^longMul(3, x[(i+1)%4])^x[(i+2)%4]^x[(i+3)%4] {
				t.Fatalf("MixColumn(%v) is %v", x, mx)
			}
		}
		if !slices.Equal(mixed(t, mixed(t, mixed(t, mx))), x) {
			t.Fatalf("mixing %v four times is not nothing", x)
		}
	}
}

func TestP2RoundKeys(t *testing.T) {
	// FIPS 197, A.1 and A.3
	for _, c := range []struct {
		key  string
		want map[int]string
	}{
		{"2b7e151628aed2a6abf7158809cf4f3c", map[int]string{
			0: "2b7e151628aed2a6abf7158809cf4f3c", 1: "a0fafe1788542cb123a339392a6c7605", 2: "f2c295f27a96b9435935807a7359f67f",
			9: "ac7766f319fadc2128d12941575c006e", 10: "d014f9a8c9ee2589e13f0cc8b6630ca6"}},
		{"603deb1015ca71be2b73aef0857d77811f352c073b6108d72d9810a30914dff4", map[int]string{
			0: "603deb1015ca71be2b73aef0857d7781", 1: "1f352c073b6108d72d9810a30914dff4", 2: "9ba354118e6925afa51a8b5f2067fcde",
			3: "a8b09c1a93d194cdbe49846eb75d5b9a", 14: "fe4890d1e6188d0b046df344706c631e"}},
	} {
		keys, code := impl.KeySchedule(unhex(t, c.key))
		if code != impl.OK || len(keys) != len(c.key)/8+7 {
			t.Fatalf("KeySchedule is %d keys, %d", len(keys), code)
		}
		for i, k := range c.want {
			if keys[i] != unhex(t, k) {
				t.Errorf("round key %d of %s is %x", i, c.key, keys[i])
			}
		}
	}
}

func TestP2Blocks(t *testing.T) {
	// FIPS 197, B: its rows tell which way they turn
	key, plain, want := unhex(t, "2b7e151628aed2a6abf7158809cf4f3c"), unhex(t, "3243f6a8885a308d313198a2e0370734"), unhex(t, "3925841d02dc09fbdc118597196a0b32")
	if x, code := impl.EncryptBlock(key, plain); x != want || code != impl.OK {
		t.Errorf("EncryptBlock is %x, %d", x, code)
	}
	s := stream(3)
	for i := range 500 {
		key, block := s.text(16+i%2*16), s.text(16)
		other, err := aes.NewCipher([]byte(key))
		if err != nil {
			t.Fatal(err)
		}
		want, back := make([]byte, 16), make([]byte, 16)
		other.Encrypt(want, []byte(block))
		other.Decrypt(back, []byte(block))
		if x, code := impl.EncryptBlock(key, block); x != string(want) || code != impl.OK {
			t.Fatalf("EncryptBlock(%x, %x) is %x, %d", key, block, x, code)
		}
		if x, code := impl.DecryptBlock(key, block); x != string(back) || code != impl.OK {
			t.Fatalf("DecryptBlock(%x, %x) is %x, %d", key, block, x, code)
		}
	}
}

func TestP2WhatIsEncryptedIsDecrypted(t *testing.T) {
	s := stream(4)
	for i := range 500 {
		key, block := s.text(16+i%2*16), s.text(16)
		x, code := impl.EncryptBlock(key, block)
		if code != impl.OK {
			t.Fatal(code)
		}
		if y, code := impl.DecryptBlock(key, x); y != block || code != impl.OK {
			t.Fatalf("%x under %x becomes %x, then %x, %d", block, key, x, y, code)
		}
		y, code := impl.DecryptBlock(key, block)
		if code != impl.OK {
			t.Fatal(code)
		}
		if x, code := impl.EncryptBlock(key, y); x != block || code != impl.OK {
			t.Fatalf("%x under %x came of %x, which becomes %x, %d", block, key, y, x, code)
		}
	}
}

func TestP2NoTwoBlocksBecomeTheSame(t *testing.T) {
	for _, key := range []string{someKey, someKey + someKey} {
		became := map[string]string{}
		for at := range impl.BlockSize { // the blocks that differ from one block in one byte, and so among each other in at most two
			for c := range 256 {
				b := []byte(someBlock)
				b[at] = byte(c)
				x, code := impl.EncryptBlock(key, string(b))
				if was, ok := became[x]; code != impl.OK || ok && was != string(b) {
					t.Fatalf("%x and %x become %x, %d", was, b, x, code)
				}
				became[x] = string(b)
			}
		}
	}
}
